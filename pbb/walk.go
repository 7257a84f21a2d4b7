package pbb

import (
	"pontage/api"
	"pontage/tag"
)

// left is what is left of bytes that are walked.
type left struct {
	rest []byte
}

// next goes over n bytes, of which there are as many.
func (l *left) next(n int) []byte {
	b := l.rest[:n:n]
	l.rest = l.rest[n:]
	return b
}

// walk goes over a backbone frame's bytes, part by part, and remembers whether one may not be: bytes may be wrong in more ways than a frame that is made of them.
type walk struct {
	left
	wrong bool
}

func (w *walk) address() api.MAC {
	var m api.MAC
	copy(m[:], w.next(addressLen))
	return m
}

// expect goes over a type, which must be this one.
func (w *walk) expect(want int) {
	n, _, e := tag.TakeType(w.next(typeLen))
	w.doubt(e != api.OK || n != want)
}

func (w *walk) vlan() api.Tag {
	t, _, e := tag.Take(w.next(tagLen))
	w.doubt(e != api.OK)
	return t
}

func (w *walk) service() api.ITag {
	t, _, e := tag.TakeI(w.next(itagLen))
	w.doubt(e != api.OK)
	return t
}

func (w *walk) doubt(wrong bool) {
	w.wrong = w.wrong || wrong
}
