package tally

import (
	"math"
	"slices"
	"testing"

	"pontage/api"
)

const (
	most   = 1 << 30 // of one Add
	utmost = 1 << 50 // of one counter
)

// wrong are kinds that are no counter's.
var wrong = []api.Why{0, -1, 15, 16, -14, 14 + 1<<8, 1 + 1<<32, math.MaxInt, math.MinInt, math.MinInt + 1}

// counts is a tally with these numbers, by Why from 1 on.
func counts(t *testing.T, list ...int) *Tally {
	t.Helper()
	x := New()
	for i, n := range list {
		add(t, x, api.Why(i+1), n, api.OK)
	}
	return x
}

func add(t *testing.T, x *Tally, w api.Why, n int, want api.Errno) {
	t.Helper()
	if e := x.Add(w, n); e != want {
		t.Errorf("Add(%d, %d): %d, want %d", w, n, e, want)
	}
}

// holds tells whether all counters from 1 on are these, and those behind them 0, by all that tells of them.
func holds(t *testing.T, x *Tally, list ...int) {
	t.Helper()
	want := make([]int, 15)
	copy(want[1:], list)
	if got := x.All(); !slices.Equal(got, want) {
		t.Errorf("All: %v, want %v", got, want)
	}
	if got := Diff(x, nil); !slices.Equal(got, want) {
		t.Errorf("Diff: %v, want %v", got, want)
	}
	whole := 0
	for w, n := range want {
		whole += n
		if got := x.Get(api.Why(w)); got != n {
			t.Errorf("Get(%d): %d, want %d", w, got, n)
		}
		if got := x.Sum(api.Why(w)); got != n {
			t.Errorf("Sum(%d): %d, want %d", w, got, n)
		}
	}
	if got := x.Sum(every()...); got != whole {
		t.Errorf("Sum of all: %d, want %d", got, whole)
	}
}

func every() []api.Why {
	var l []api.Why
	for w := range 15 {
		l = append(l, api.Why(w))
	}
	return l
}

// brim is a tally one of whose counters is as great as may be.
func brim(t *testing.T, w api.Why) *Tally {
	t.Helper()
	x := New()
	for range utmost / most {
		if e := x.Add(w, most); e != api.OK {
			t.Fatalf("Add: %d at %d", e, x.Get(w))
		}
	}
	return x
}

func TestExample(t *testing.T) {
	x := New()
	add(t, x, api.BadFrame, 2, api.OK)
	if x.Get(api.BadFrame) != 2 || x.Sum(api.BadFrame, api.BadFrame, api.BigFrame) != 2 {
		t.Error(x.All())
	}
}

// P22.1: New: all are 0, and two that New made know nothing of each other.
func TestNew(t *testing.T) {
	one, other := New(), New()
	holds(t, one)
	add(t, one, api.Away, 3, api.OK)
	holds(t, other)
	holds(t, one, 0, 0, 0, 0, 0, 0, 0, 0, 0, 3)
}

// P22.1, P22.4: each counter alone, n more each time.
func TestAdd(t *testing.T) {
	for w := 1; w <= 14; w++ {
		x, sum, want := New(), 0, make([]int, 14)
		for _, n := range []int{1, 0, 2, most - 1, most, 7} {
			add(t, x, api.Why(w), n, api.OK)
			sum += n
			want[w-1] = sum
			holds(t, x, want...)
		}
	}
}

// P22.1: ErrTally: there is no such counter; nothing changes.
func TestAddToNone(t *testing.T) {
	x := counts(t, 1, 2, 3)
	for _, w := range wrong {
		for _, n := range []int{0, 1, most, -1, most + 1} {
			add(t, x, w, n, api.ErrTally)
		}
	}
	holds(t, x, 1, 2, 3)
}

// P22.1, P22.5: ErrTally: so much isn't added at once, nor anything taken away.
func TestAddWrong(t *testing.T) {
	list := []int{1, 2, 3, 4, 5, 6, 7, 8, 9, 10, 11, 12, 13, 14}
	x := counts(t, list...)
	for w := api.Why(1); w <= 14; w++ {
		for _, n := range []int{-1, -2, most + 1, most + 2, utmost, -most, math.MaxInt, math.MinInt, math.MaxInt - most, 1 << 32} {
			add(t, x, w, n, api.ErrTally)
		}
	}
	holds(t, x, list...)
}

// P22.1: ErrMany: at 2^50 there is an end, and nothing changes; others may be more.
func TestAddMany(t *testing.T) {
	x := brim(t, api.OwnFrame)
	for _, n := range []int{1, 2, most - 1, most} {
		add(t, x, api.OwnFrame, n, api.ErrMany)
	}
	add(t, x, api.OwnFrame, 0, api.OK)
	add(t, x, api.OwnFrame, most+1, api.ErrTally)
	add(t, x, api.OwnFrame, -1, api.ErrTally)
	holds(t, x, 0, 0, 0, 0, 0, 0, 0, 0, 0, 0, utmost)
	add(t, x, api.Away, most, api.OK)
	add(t, x, api.QueueFull, 1, api.OK)
	holds(t, x, 0, 0, 0, 0, 0, 0, 0, 0, 0, most, utmost, 1)
}

// P22.1: just below the end, what fits is added and what does not is not.
func TestAddNearMany(t *testing.T) {
	x := New()
	for range utmost/most - 1 {
		add(t, x, api.Nobody, most, api.OK)
	}
	add(t, x, api.Nobody, most-2, api.OK)
	add(t, x, api.Nobody, 3, api.ErrMany)
	add(t, x, api.Nobody, most, api.ErrMany)
	if n := x.Get(api.Nobody); n != utmost-2 {
		t.Error(n)
	}
	add(t, x, api.Nobody, 1, api.OK)
	add(t, x, api.Nobody, 2, api.ErrMany)
	add(t, x, api.Nobody, 1, api.OK)
	add(t, x, api.Nobody, 1, api.ErrMany)
	if n := x.Get(api.Nobody); n != utmost {
		t.Error(n)
	}
}

// P22.2: Get: the one; 0 of what there is none.
func TestGet(t *testing.T) {
	x := counts(t, 1, 2, 3, 4, 5, 6, 7, 8, 9, 10, 11, 12, 13, 14)
	for w := api.Why(1); w <= 14; w++ {
		if n := x.Get(w); n != int(w) {
			t.Errorf("Get(%d): %d", w, n)
		}
	}
	for _, w := range wrong {
		if n := x.Get(w); n != 0 {
			t.Errorf("Get(%d): %d", w, n)
		}
	}
}

// P22.2: Sum: each once, however often it is named; of what there is none, nothing.
func TestSum(t *testing.T) {
	x := counts(t, 1, 2, 4, 8, 16, 32, 64, 128, 256, 512, 1024, 2048, 4096, 8192)
	for _, c := range []struct {
		l    []api.Why
		want int
	}{
		{nil, 0},
		{[]api.Why{}, 0},
		{[]api.Why{1}, 1},
		{[]api.Why{14}, 8192},
		{[]api.Why{1, 14}, 8193},
		{[]api.Why{14, 1}, 8193},
		{[]api.Why{3, 3}, 4},
		{[]api.Why{3, 2, 3, 2, 3}, 6},
		{[]api.Why{0, 15, -1, 5, 99, 5, math.MinInt, math.MaxInt}, 16},
		{wrong, 0},
		{append(every(), every()...), 1<<14 - 1},
		{slices.Repeat([]api.Why{7}, 100000), 64},
	} {
		before := slices.Clone(c.l)
		if n := x.Sum(c.l...); n != c.want || !slices.Equal(c.l, before) {
			t.Errorf("Sum: %d, want %d", n, c.want)
		}
	}
	if n := x.Sum(); n != 0 {
		t.Error(n)
	}
	holds(t, x, 1, 2, 4, 8, 16, 32, 64, 128, 256, 512, 1024, 2048, 4096, 8192)
}

// P22.2: Fork: another one like it; what is added to the one is not to the other.
func TestFork(t *testing.T) {
	x := counts(t, 1, 2)
	y := x.Fork()
	holds(t, y, 1, 2)
	add(t, x, 1, 10, api.OK)
	add(t, y, 2, 20, api.OK)
	z := y.Fork()
	add(t, z, 14, 5, api.OK)
	holds(t, x, 11, 2)
	holds(t, y, 1, 22)
	holds(t, z, 1, 22, 0, 0, 0, 0, 0, 0, 0, 0, 0, 0, 0, 5)
}

// P22.2: one at the brim has a twin at the brim.
func TestForkBrim(t *testing.T) {
	y := brim(t, 1).Fork()
	add(t, y, 1, 1, api.ErrMany)
	holds(t, y, utmost)
}

// P22.2: what All and Diff answer is nobody else's.
func TestAnswersApart(t *testing.T) {
	x, y := counts(t, 1, 2, 3), counts(t, 1)
	for _, tell := range []func() []int{x.All, x.Fork().All, func() []int { return Diff(x, y) }, func() []int { return Diff(x, nil) }} {
		one, other := tell(), tell()
		was := slices.Clone(other)
		for i := range one {
			one[i] = -7
		}
		if !slices.Equal(other, was) {
			t.Error(other, was)
		}
		holds(t, x, 1, 2, 3)
		holds(t, y, 1)
	}
}

// P22.2: an answer of All stays as it was told, whatever is added.
func TestAllStays(t *testing.T) {
	x := counts(t, 1, 2, 3)
	all := x.All()
	add(t, x, 2, 5, api.OK)
	if all[2] != 2 {
		t.Error(all)
	}
	holds(t, x, 1, 7, 3)
}

// P22.2: one that is nil, or that New did not make.
func TestUnmade(t *testing.T) {
	for _, x := range []*Tally{nil, {}, new(Tally)} {
		for _, w := range append(every(), wrong...) {
			for _, n := range []int{0, 1, most, most + 1, -1} {
				add(t, x, w, n, api.ErrNil)
			}
			if x.Get(w) != 0 || x.Sum(w) != 0 || x.Sum(w, 1, w) != 0 {
				t.Errorf("%d of none: %d, %d", w, x.Get(w), x.Sum(w))
			}
		}
		if x.All() != nil || x.Fork() != nil || x.Sum() != 0 {
			t.Error(x.All(), x.Fork(), x.Sum())
		}
	}
}

// P22.3: Diff: each of a less that of b; of one that nobody made: zeros.
func TestDiff(t *testing.T) {
	a := counts(t, 5, 2, 0, 4, 5, 6, 7, 8, 9, 10, 11, 12, 13, 14)
	b := counts(t, 1, 2, 3, 0, 5, 6, 7, 8, 9, 10, 11, 12, 13, 15)
	for _, c := range []struct {
		a, b *Tally
		want []int
	}{
		{a, b, []int{0, 4, 0, -3, 4, 0, 0, 0, 0, 0, 0, 0, 0, 0, -1}},
		{b, a, []int{0, -4, 0, 3, -4, 0, 0, 0, 0, 0, 0, 0, 0, 0, 1}},
		{a, a, make([]int, 15)},
		{a, a.Fork(), make([]int, 15)},
		{a, New(), a.All()},
		{a, nil, a.All()},
		{a, &Tally{}, a.All()},
		{nil, b, []int{0, -1, -2, -3, 0, -5, -6, -7, -8, -9, -10, -11, -12, -13, -15}},
		{&Tally{}, b, []int{0, -1, -2, -3, 0, -5, -6, -7, -8, -9, -10, -11, -12, -13, -15}},
		{New(), b, []int{0, -1, -2, -3, 0, -5, -6, -7, -8, -9, -10, -11, -12, -13, -15}},
		{nil, nil, make([]int, 15)},
		{nil, &Tally{}, make([]int, 15)},
		{New(), nil, make([]int, 15)},
	} {
		if got := Diff(c.a, c.b); !slices.Equal(got, c.want) {
			t.Errorf("%v, want %v", got, c.want)
		}
	}
	holds(t, a, 5, 2, 0, 4, 5, 6, 7, 8, 9, 10, 11, 12, 13, 14)
	holds(t, b, 1, 2, 3, 0, 5, 6, 7, 8, 9, 10, 11, 12, 13, 15)
}

// P22.3: at the brim, both ways.
func TestDiffBrim(t *testing.T) {
	x := brim(t, 14)
	if n := Diff(x, nil)[14]; n != utmost {
		t.Error(n)
	}
	if n := Diff(nil, x)[14]; n != -utmost {
		t.Error(n)
	}
}

// P22.3: each counter's name, and whose it is.
func TestNames(t *testing.T) {
	for _, c := range []struct {
		w    api.Why
		name string
	}{
		{api.InCustomer, "in customer"},
		{api.InBackbone, "in backbone"},
		{api.OutCustomer, "out customer"},
		{api.OutBackbone, "out backbone"},
		{api.BadFrame, "bad frame"},
		{api.BigFrame, "big frame"},
		{api.NoService, "no service"},
		{api.NoMember, "no member"},
		{api.Blocked, "blocked"},
		{api.Away, "away"},
		{api.OwnFrame, "own frame"},
		{api.QueueFull, "queue full"},
		{api.PortDown, "port down"},
		{api.Nobody, "nobody"},
	} {
		if s := Name(c.w); s != c.name {
			t.Errorf("Name(%d): %q, want %q", c.w, s, c.name)
		}
		if w, ok := Parse(c.name); !ok || w != c.w {
			t.Errorf("Parse(%q): %d, %v, want %d", c.name, w, ok, c.w)
		}
	}
	for _, w := range wrong {
		if s := Name(w); s != "" {
			t.Errorf("Name(%d): %q", w, s)
		}
	}
}

// P22.3: what is nobody's name, however like one it is.
func TestParseNobodys(t *testing.T) {
	for _, s := range []string{"", " ", "\x00", "none", "no why", "1", "14", "Nobody", "NOBODY", "nobody ", " nobody", "nobod", "nobodyy", "own  frame", "ownframe", "own", "frame", "in", "out", "in customer\n", "in customer,in backbone", "in\tcustomer", "queuefull", "bad frame\x00", "nobody\xff", "queue fulł"} {
		if w, ok := Parse(s); ok || w != api.NoWhy {
			t.Errorf("Parse(%q): %d, %v", s, w, ok)
		}
	}
}

// P22.6: names are unlike; Parse of a Name is the counter.
func TestNamesUnlike(t *testing.T) {
	seen := map[string]api.Why{}
	for w := api.Why(1); w <= 14; w++ {
		s := Name(w)
		if other, ok := seen[s]; ok || s == "" {
			t.Errorf("Name(%d) is %q, as that of %d", w, s, other)
		}
		seen[s] = w
		if back, ok := Parse(s); !ok || back != w {
			t.Errorf("Parse of Name(%d): %d, %v", w, back, ok)
		}
	}
}
