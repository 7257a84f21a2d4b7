package tally

import (
	"math/rand"
	"slices"
	"testing"

	"pontage/api"
)

// book is the chapter's words said again: what was added, by counters.
type book map[api.Why]int64

func (b book) add(w api.Why, n int) api.Errno {
	if w < 1 || w > 14 || n < 0 || n > 1073741824 {
		return 220
	}
	if b[w]+int64(n) > 1125899906842624 {
		return 3
	}
	b[w] += int64(n)
	return 0
}

func (b book) list() []int {
	l := []int{0}
	for w := api.Why(1); w <= 14; w++ {
		l = append(l, int(b[w]))
	}
	return l
}

func (b book) sum(l []api.Why) int {
	named := map[api.Why]bool{}
	for _, w := range l {
		named[w] = true
	}
	sum := 0
	for w, n := range b {
		if named[w] {
			sum += int(n)
		}
	}
	return sum
}

// pair is a tally beside what it must be like.
type pair struct {
	x *Tally
	b book
}

func (p *pair) fork() *pair {
	b := book{}
	for w, n := range p.b {
		b[w] = n
	}
	return &pair{p.x.Fork(), b}
}

// much is what is added, seldom one that is wrong.
func much(r *rand.Rand) int {
	switch r.Intn(10) {
	case 0:
		return -1 - r.Intn(3)
	case 1:
		return 1<<30 - 2 + r.Intn(5)
	case 2:
		return 0
	case 3:
		return r.Intn(1 << 40)
	}
	return r.Intn(1 << 30)
}

// kinds are some counters, and some that are none.
func kinds(r *rand.Rand) []api.Why {
	var l []api.Why
	for range r.Intn(12) {
		l = append(l, api.Why(r.Intn(19)-2))
	}
	return l
}

// do adds to both, and tells how that went; just one counter turned, by what was added, and none fell.
func (p *pair) do(t *testing.T, w api.Why, n int) api.Errno {
	t.Helper()
	before := p.x.Fork()
	e := p.x.Add(w, n)
	if want := p.b.add(w, n); e != want {
		t.Fatalf("Add(%d, %d): %d, want %d", w, n, e, want)
	}
	turned := make([]int, 15)
	if e == api.OK {
		turned[w] = n
	}
	if d := Diff(p.x, before); !slices.Equal(d, turned) {
		t.Fatalf("Add(%d, %d): %d turned %v", w, n, e, d)
	}
	return e
}

// is holds all that a tally tells against the words.
func (p *pair) is(t *testing.T, r *rand.Rand) {
	t.Helper()
	want := p.b.list()
	if all := p.x.All(); !slices.Equal(all, want) {
		t.Fatalf("All: %v, want %v", all, want)
	}
	for w := api.Why(-3); w < 20; w++ {
		if n := p.x.Get(w); int64(n) != p.b[w] {
			t.Fatalf("Get(%d): %d, want %d", w, n, p.b[w])
		}
	}
	l := kinds(r)
	if n := p.x.Sum(l...); n != p.b.sum(l) {
		t.Fatalf("Sum of %v: %d, want %d", l, n, p.b.sum(l))
	}
}

// P22.1, P22.2, P22.4, P22.5, by chance: a tally and its twins are what the words say, whatever is added to any of them.
func TestTold(t *testing.T) {
	count := map[api.Errno]int{}
	for seed := range int64(200) {
		r := rand.New(rand.NewSource(seed))
		all := []*pair{{New(), book{}}}
		for range 300 {
			p := all[r.Intn(len(all))]
			if len(all) < 4 && r.Intn(60) == 0 {
				all = append(all, p.fork())
			}
			count[p.do(t, api.Why(r.Intn(17)-1), much(r))]++
			for _, p := range all {
				p.is(t, r)
			}
		}
	}
	if count[0] < 5000 || count[220] < 5000 || count[3] != 0 {
		t.Error(count)
	}
}

// P22.1, P22.4, P22.5, by chance, where counters are nearly as great as may be.
func TestToldNearMany(t *testing.T) {
	full := &pair{New(), book{}}
	for _, w := range []api.Why{1, 5, 14} {
		for full.x.Get(w) < 1<<50-1<<31 {
			full.x.Add(w, 1<<30)
		}
		full.b[w] = 1<<50 - 1<<31
	}
	count := map[api.Errno]int{}
	for seed := range int64(200) {
		r := rand.New(rand.NewSource(seed))
		p := full.fork()
		for range 40 {
			w := []api.Why{1, 5, 14, 2}[r.Intn(4)]
			n := much(r)
			if rest := 1<<50 - p.x.Get(w); r.Intn(3) == 0 && rest < 1<<30 {
				n = rest - 1 + r.Intn(3)
			}
			count[p.do(t, w, n)]++
			p.is(t, r)
		}
	}
	if count[0] < 1000 || count[220] < 500 || count[3] < 1000 {
		t.Error(count)
	}
}

// P22.3, by chance: Diff of any two is what the lists say, one that nobody made among them.
func TestToldDiff(t *testing.T) {
	fell := 0
	for seed := range int64(500) {
		r := rand.New(rand.NewSource(seed))
		two := []*pair{{New(), book{}}, {New(), book{}}}
		for range r.Intn(40) {
			two[r.Intn(2)].do(t, api.Why(r.Intn(16)), much(r))
		}
		switch r.Intn(6) {
		case 0:
			two[0] = &pair{nil, book{}}
		case 1:
			two[1] = &pair{&Tally{}, book{}}
		case 2:
			two[1] = two[0]
		}
		a, b := two[0].b.list(), two[1].b.list()
		d := Diff(two[0].x, two[1].x)
		for w, n := range d {
			if n != a[w]-b[w] || len(d) != 15 {
				t.Fatalf("Diff: %v of %v, %v", d, a, b)
			}
			if n < 0 {
				fell++
			}
		}
	}
	if fell < 500 {
		t.Error(fell)
	}
}

// P22.6, by chance: no text is a counter's but its Name.
func TestToldNames(t *testing.T) {
	r := rand.New(rand.NewSource(22))
	found, none := 0, 0
	for range 20000 {
		s := []byte(Name(api.Why(r.Intn(16))))
		for range r.Intn(3) {
			switch i := r.Intn(len(s) + 1); r.Intn(3) {
			case 0:
				s = slices.Insert(s, i, "abeno "[r.Intn(6)])
			case 1:
				s = s[:i]
			case 2:
				s = s[i:]
			}
		}
		want := api.NoWhy
		for w := api.Why(1); w <= 14; w++ {
			if Name(w) == string(s) {
				want = w
			}
		}
		if w, ok := Parse(string(s)); w != want || ok != (want != api.NoWhy) {
			t.Fatalf("Parse(%q): %d, %v, want %d", s, w, ok, want)
		}
		if want == api.NoWhy {
			none++
		} else {
			found++
		}
	}
	if found < 3000 || none < 3000 {
		t.Error(found, none)
	}
}
