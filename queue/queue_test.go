package queue

import (
	"bytes"
	"math"
	"testing"

	"pontage/api"
)

// room is an empty queue with room for so many.
func room(t *testing.T, n int) *Queue {
	t.Helper()
	q, e := New(n)
	if e != api.OK || q == nil {
		t.Fatalf("New(%d): %v, %d", n, q, e)
	}
	return q
}

// with is a queue in which these wait.
func with(t *testing.T, n int, frames ...string) *Queue {
	t.Helper()
	q := room(t, n)
	for _, f := range frames {
		put(t, q, f, api.OK)
	}
	return q
}

func put(t *testing.T, q *Queue, f string, want api.Errno) {
	t.Helper()
	if e := q.Put([]byte(f)); e != want {
		t.Errorf("Put %q: %d, want %d", f, e, want)
	}
}

func take(t *testing.T, q *Queue, want string) {
	t.Helper()
	if b, ok := q.Take(); !ok || string(b) != want {
		t.Errorf("Take: %q, %v, want %q", b, ok, want)
	}
}

// holds tells whether just these wait, with room for so many more, by all that tells of them without taking any.
func holds(t *testing.T, q *Queue, more int, want ...string) {
	t.Helper()
	if q.Len() != len(want) || q.Room() != more {
		t.Errorf("Len %d, Room %d, want %d, %d", q.Len(), q.Room(), len(want), more)
	}
	got := q.All()
	if len(got) != len(want) {
		t.Fatalf("All: %q, want %q", got, want)
	}
	for i, b := range got {
		if string(b) != want[i] {
			t.Errorf("All: %q, want %q", got, want)
		}
	}
}

// empty takes from a queue in which none may wait any more.
func empty(t *testing.T, q *Queue) {
	t.Helper()
	if b, ok := q.Take(); ok || b != nil {
		t.Errorf("Take: %q, %v, where none waits", b, ok)
	}
}

func TestExample(t *testing.T) {
	q := room(t, 2)
	put(t, q, "a", api.OK)
	put(t, q, "b", api.OK)
	put(t, q, "c", api.ErrFull)
	take(t, q, "a")
	put(t, q, "c", api.OK)
	holds(t, q, 0, "b", "c")
}

// P21.1: room is from 1 to MaxQueue.
func TestNew(t *testing.T) {
	for _, n := range []int{1, 2, 31, 32} {
		holds(t, room(t, n), n)
		empty(t, room(t, n))
	}
	for _, n := range []int{0, -1, 33, 34, 1 << 20, -32, math.MaxInt, math.MinInt, math.MaxInt32 + 2} {
		if q, e := New(n); q != nil || e != api.ErrQueue {
			t.Errorf("New(%d): %v, %d", n, q, e)
		}
	}
}

// P21.1: two that New made know nothing of each other.
func TestNewApart(t *testing.T) {
	one, other := with(t, 3, "a"), room(t, 3)
	holds(t, one, 2, "a")
	holds(t, other, 3)
}

// P21.1: a frame has at most MaxInject bytes, where there is room and where there is none.
func TestPutLong(t *testing.T) {
	q := room(t, 2)
	long, most := make([]byte, 2049), bytes.Repeat([]byte{7}, 2048)
	for _, b := range [][]byte{long, make([]byte, 2050), make([]byte, 1<<20)} {
		if e := q.Put(b); e != api.ErrLong {
			t.Errorf("%d bytes: %d", len(b), e)
		}
	}
	holds(t, q, 2)
	put(t, q, string(most), api.OK)
	put(t, q, string(most[1:]), api.OK)
	if e := q.Put(long); e != api.ErrLong {
		t.Errorf("too long, no room: %d", e)
	}
	put(t, q, string(most), api.ErrFull)
	holds(t, q, 0, string(most), string(most[1:]))
}

// P21.1: it is the bytes that count, not what memory there is behind them.
func TestPutOfGreater(t *testing.T) {
	q, much := room(t, 1), make([]byte, 4096)
	if e := q.Put(much[:2048]); e != api.OK {
		t.Error(e)
	}
	if b, ok := q.Take(); !ok || len(b) != 2048 {
		t.Error(len(b), ok)
	}
}

// P21.1: a frame without bytes waits like any other; it isn't the same as none.
func TestPutNothing(t *testing.T) {
	q := room(t, 3)
	for _, b := range [][]byte{nil, {}} {
		if e := q.Put(b); e != api.OK {
			t.Error(e)
		}
	}
	put(t, q, "a", api.OK)
	put(t, q, "", api.ErrFull)
	holds(t, q, 0, "", "", "a")
	take(t, q, "")
	take(t, q, "")
	take(t, q, "a")
	empty(t, q)
}

// P21.1: just as many wait as there is room for; the next one is refused, and nothing changes.
func TestPutFull(t *testing.T) {
	for n := 1; n <= 32; n++ {
		q := room(t, n)
		var want []string
		for i := range n {
			want = append(want, string([]byte{byte(i), 9}))
			put(t, q, want[i], api.OK)
			holds(t, q, n-i-1, want...)
		}
		for range 3 {
			if e := q.Put([]byte{1}); e != api.ErrFull {
				t.Errorf("room %d, all taken: %d", n, e)
			}
		}
		put(t, q, "", api.ErrFull)
		holds(t, q, 0, want...)
	}
}

// P21.2: the one that waits longest is taken, and waits no more.
func TestTake(t *testing.T) {
	q := with(t, 4, "a", "b", "c")
	take(t, q, "a")
	holds(t, q, 2, "b", "c")
	take(t, q, "b")
	holds(t, q, 3, "c")
	put(t, q, "d", api.OK)
	holds(t, q, 2, "c", "d")
	take(t, q, "c")
	take(t, q, "d")
	for range 2 {
		empty(t, q)
		holds(t, q, 4)
	}
	put(t, q, "e", api.OK)
	take(t, q, "e")
}

// P21.2: All tells the same again, and Take behind it takes the same.
func TestAll(t *testing.T) {
	q := room(t, 3)
	holds(t, q, 3)
	put(t, q, "a", api.OK)
	put(t, q, "b", api.OK)
	holds(t, q, 1, "a", "b")
	holds(t, q, 1, "a", "b")
	take(t, q, "a")
	put(t, q, "c", api.OK)
	put(t, q, "d", api.OK)
	holds(t, q, 0, "b", "c", "d")
	holds(t, q, 0, "b", "c", "d")
	take(t, q, "b")
	take(t, q, "c")
	take(t, q, "d")
}

// P21.2: Clear lets all go, and tells how many; what comes behind it waits as ever.
func TestClear(t *testing.T) {
	q := room(t, 3)
	for n, frames := range [][]string{{}, {"a"}, {"", "b"}, {"a", "b", "c"}} {
		for _, f := range frames {
			put(t, q, f, api.OK)
		}
		if gone := q.Clear(); gone != n {
			t.Errorf("Clear: %d, want %d", gone, n)
		}
		holds(t, q, 3)
		empty(t, q)
		if gone := q.Clear(); gone != 0 {
			t.Errorf("Clear of none: %d", gone)
		}
	}
	put(t, q, "d", api.OK)
	put(t, q, "e", api.OK)
	take(t, q, "d")
	if gone := q.Clear(); gone != 1 {
		t.Errorf("Clear of the rest: %d", gone)
	}
}

// P21.3: another one has the same frames and the same room, and goes its own way.
func TestFork(t *testing.T) {
	q := with(t, 4, "a", "b", "c")
	take(t, q, "a")
	twin := q.Fork()
	if twin == q {
		t.Fatal("Fork is the same one")
	}
	holds(t, q, 2, "b", "c")
	holds(t, twin, 2, "b", "c")
	take(t, q, "b")
	put(t, twin, "d", api.OK)
	put(t, twin, "e", api.OK)
	put(t, twin, "f", api.ErrFull)
	holds(t, q, 3, "c")
	holds(t, twin, 0, "b", "c", "d", "e")
	if q.Clear() != 1 || twin.Clear() != 4 {
		t.Error("Clear of one is one's own")
	}
	holds(t, twin, 4)
}

// P21.3: an empty one, a full one, and one of one are forked as well.
func TestForkEdges(t *testing.T) {
	holds(t, room(t, 5).Fork(), 5)
	holds(t, room(t, 32).Fork(), 32)
	holds(t, with(t, 2, "a", "b").Fork(), 0, "a", "b")
	twin := with(t, 1, "").Fork().Fork()
	holds(t, twin, 0, "")
	put(t, twin, "x", api.ErrFull)
	take(t, twin, "")
	holds(t, twin, 1)
}

// P21.6: what was put may be written over.
func TestPutIsCopied(t *testing.T) {
	b := []byte("abc")
	q := room(t, 3)
	for i := range 3 {
		b[0] = byte('0' + i)
		if e := q.Put(b); e != api.OK || string(b[1:]) != "bc" {
			t.Error(e, b)
		}
	}
	b[1] = 'x'
	holds(t, q, 0, "0bc", "1bc", "2bc")
	take(t, q, "0bc")
}

// spoil writes over frames, and over what memory there is behind them.
func spoil(frames ...[]byte) {
	for i, b := range frames {
		b = b[:cap(b)]
		for j := range b {
			b[j] = 0xee
		}
		frames[i] = nil
	}
}

// P21.6: what is told is one's own, of All and Take, of a queue and of its twin.
func TestToldIsOwn(t *testing.T) {
	q := with(t, 4, "abc", "def", "", "g")
	twin := q.Fork()
	spoil(q.All()...)
	spoil(twin.All()...)
	one, again := q.All(), q.All()
	spoil(one...)
	if string(again[0]) != "abc" || string(again[3]) != "g" {
		t.Errorf("All shares with another All: %q", again)
	}
	holds(t, q, 0, "abc", "def", "", "g")
	holds(t, twin, 0, "abc", "def", "", "g")

	told := q.All()
	b, _ := q.Take()
	spoil(b)
	if string(told[0]) != "abc" {
		t.Errorf("Take shares with All: %q", told)
	}
	holds(t, twin, 0, "abc", "def", "", "g")
	b, _ = twin.Take()
	spoil(b)
	holds(t, q, 1, "def", "", "g")
	holds(t, twin, 1, "def", "", "g")
}

// P21.6: frames of one answer share nothing with each other, so that one can grow.
func TestToldApart(t *testing.T) {
	q := with(t, 3, "abc", "abc", "abc")
	list := q.All()
	list[0] = append(list[0], "xyz"...)
	spoil(list[0])
	if string(list[1]) != "abc" || string(list[2]) != "abc" {
		t.Errorf("%q", list)
	}
}

// One that neither New nor Fork made: ErrNil where there is an error, ahead of all others, else zero values.
func TestNobodyMade(t *testing.T) {
	var none *Queue
	for _, q := range []*Queue{none, {}, new(Queue), none.Fork(), new(Queue).Fork()} {
		for _, b := range [][]byte{nil, {1}, make([]byte, 2049)} {
			if e := q.Put(b); e != api.ErrNil {
				t.Errorf("Put: %d", e)
			}
		}
		empty(t, q)
		holds(t, q, 0)
		if q.Clear() != 0 || len(q.All()) != 0 {
			t.Error("something waits where nothing can")
		}
		if q.Fork() != nil {
			t.Error("Fork of what nobody made")
		}
	}
}
