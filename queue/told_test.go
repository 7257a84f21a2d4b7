package queue

import (
	"bytes"
	"math/rand"
	"slices"
	"testing"

	"pontage/api"
)

// line is the chapter's words said again, of a list.
type line struct {
	room   int
	frames []string
}

func (l *line) put(b []byte) api.Errno {
	if len(b) > 2048 {
		return 2
	}
	if len(l.frames) == l.room {
		return 71
	}
	l.frames = append(l.frames, string(b))
	return 0
}

func (l *line) take() (string, bool) {
	if len(l.frames) == 0 {
		return "", false
	}
	first := l.frames[0]
	l.frames = l.frames[1:]
	return first, true
}

// pair is a queue beside what it must be like.
type pair struct {
	q *Queue
	l line
}

func (p *pair) fork() *pair {
	return &pair{p.q.Fork(), line{p.l.room, slices.Clone(p.l.frames)}}
}

// some is a frame, seldom one that is too long, often one that was put before.
func some(r *rand.Rand) []byte {
	n := r.Intn(4)
	if r.Intn(20) == 0 {
		n = 2044 + r.Intn(8)
	}
	b := make([]byte, n)
	for i := range b {
		b[i] = byte(r.Intn(3))
	}
	return b
}

// do does one thing to both, and tells what was done and how that went.
func (p *pair) do(t *testing.T, r *rand.Rand) string {
	t.Helper()
	switch r.Intn(24) {
	case 0:
		want := len(p.l.frames)
		p.l.frames = nil
		if n := p.q.Clear(); n != want {
			t.Fatalf("Clear: %d, want %d", n, want)
		}
		return "clear"
	case 1:
		spoil(p.q.All()...)
		return "spoil"
	case 2, 3, 4, 5, 6, 7, 8, 9, 10:
		b, ok := p.q.Take()
		want, more := p.l.take()
		if string(b) != want || ok != more {
			t.Fatalf("Take: %q, %v, want %q, %v", b, ok, want, more)
		}
		spoil(b)
		return map[bool]string{true: "taken", false: "none"}[ok]
	}
	b := some(r)
	before := bytes.Clone(b)
	e, want := p.q.Put(b), p.l.put(b)
	if e != want || !bytes.Equal(b, before) {
		t.Fatalf("Put of %d bytes: %d, want %d", len(b), e, want)
	}
	spoil(b)
	return map[api.Errno]string{0: "put", 2: "long", 71: "full"}[e]
}

// P21.1 to P21.6, by chance: a queue and its twins are what the words say, whatever is done to any of them.
func TestTold(t *testing.T) {
	count := map[string]int{}
	for seed := range int64(300) {
		r := rand.New(rand.NewSource(seed))
		n := 1 + r.Intn(6)
		if seed%10 == 0 {
			n = 32
		}
		all := []*pair{{room(t, n), line{room: n}}}
		for range 200 {
			p := all[r.Intn(len(all))]
			if len(all) < 4 && r.Intn(40) == 0 {
				all = append(all, p.fork())
				count["fork"]++
			}
			count[p.do(t, r)]++
			for _, p := range all {
				holds(t, p.q, p.l.room-len(p.l.frames), p.l.frames...)
			}
		}
	}
	for _, what := range []string{"clear", "spoil", "taken", "none", "put", "long", "full", "fork"} {
		if count[what] < 300 {
			t.Errorf("%s: only %d times", what, count[what])
		}
	}
}

// P21.4: what comes out is what went in, in that order, each once, but what was refused.
func TestInOrder(t *testing.T) {
	for seed := range int64(100) {
		r := rand.New(rand.NewSource(seed))
		q := room(t, 1+r.Intn(32))
		var in, out []string
		refused := 0
		for i := range 400 {
			b := []byte{byte(i >> 8), byte(i)}
			if r.Intn(5) == 0 {
				b = make([]byte, 2049)
			}
			switch q.Put(b) {
			case api.OK:
				in = append(in, string(b))
			default:
				refused++
			}
			for range r.Intn(3) {
				if b, ok := q.Take(); ok {
					out = append(out, string(b))
				}
			}
			if r.Intn(10) == 0 {
				q.All()
				q.Fork().Clear()
			}
		}
		for b, ok := q.Take(); ok; b, ok = q.Take() {
			out = append(out, string(b))
		}
		if !slices.Equal(in, out) || refused == 0 {
			t.Fatalf("seed %d: %d went in, %d came out, %d were refused", seed, len(in), len(out), refused)
		}
	}
}

// P21.5: Len and Room together are the room at all times.
func TestBounded(t *testing.T) {
	r := rand.New(rand.NewSource(21))
	for n := 1; n <= 32; n++ {
		p := &pair{room(t, n), line{room: n}}
		for range 200 {
			p.do(t, r)
			twin := p.q.Fork()
			if p.q.Len()+p.q.Room() != n || twin.Len()+twin.Room() != n || p.q.Len() > n || p.q.Room() > n {
				t.Fatalf("room %d: %d wait, %d more", n, p.q.Len(), p.q.Room())
			}
		}
	}
}
