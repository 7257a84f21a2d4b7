package change

import (
	"math"
	"math/rand"
	"slices"
	"testing"

	"pontage/api"
)

// P14.1: all that a port may do and does, each with what becomes of it; all else stays.
func TestPst(t *testing.T) {
	r := rand.New(rand.NewSource(1))
	for _, c := range []struct {
		learn, forward, learning, forwarding bool // ahead
		learns, forwards, steps              bool // behind
	}{
		{false, false, false, false, false, false, false},
		{false, false, false, true, false, false, true},
		{false, false, true, false, false, false, true},
		{false, false, true, true, false, false, true},
		{false, true, false, false, false, false, false},
		{false, true, false, true, false, false, true},
		{false, true, true, false, false, false, true},
		{false, true, true, true, false, false, true},
		{true, false, false, false, true, false, true},
		{true, false, false, true, false, false, true},
		{true, false, true, false, true, false, false},
		{true, false, true, true, true, false, true},
		{true, true, false, false, true, false, true},
		{true, true, false, true, true, true, true},
		{true, true, true, false, true, true, true},
		{true, true, true, true, true, true, false},
	} {
		for range 50 {
			p := anyPort(r)
			p.Learn, p.Forward, p.Learning, p.Forwarding = c.learn, c.forward, c.learning, c.forwarding
			want := p
			want.Learning, want.Forwarding = c.learns, c.forwards
			got, ok := Pst(p)
			same(t, "Pst", api.Tree{P: []api.Port{got}}, api.Tree{P: []api.Port{want}})
			if ok != c.steps {
				t.Fatalf("%+v: told %v", c, ok)
			}
		}
	}
}

// P14.4: two steps at most, from wherever; then the port does what it may, and no more.
func TestStates(t *testing.T) {
	r := rand.New(rand.NewSource(2))
	most := 0
	for bits := range 16 {
		for range 50 {
			p := anyPort(r)
			p.Learn, p.Forward, p.Learning, p.Forwarding = bits&1 != 0, bits&2 != 0, bits&4 != 0, bits&8 != 0
			steps := 0
			for q, ok := Pst(p); ok; q, ok = Pst(p) {
				if steps++; steps > 2 {
					t.Fatalf("%+v does not rest", p)
				}
				p = q
			}
			most = max(most, steps)
			if p.Learning != p.Learn || p.Forwarding != (p.Learn && p.Forward) {
				t.Fatalf("rests: %+v", p)
			}
			if q, _ := Pst(p); q != p {
				t.Fatalf("rests, but changes: %+v", q)
			}
		}
	}
	if most != 2 {
		t.Error(most)
	}
}

// P14.2: all others, wherever the port is; its own stays.
func TestProp(t *testing.T) {
	for _, x := range trees(3) {
		for i := range x.P {
			want := x
			want.P = slices.Clone(x.P)
			for k := range want.P {
				if k != i {
					want.P[k].TcProp = true
				}
			}
			same(t, "Prop", Prop(x, i), want)
		}
	}
}

// while is what NewWhile makes of a port of those times; all other times of the tree and its port are others.
func while(t *testing.T, root api.Times, p api.Port) api.Port {
	t.Helper()
	p.DesigT, p.PriT = api.Times{Max: 6, Hello: 5, Delay: 4}, api.Times{Max: 7, Hello: 6, Delay: 5}
	x := api.Tree{T: api.Times{Max: 8, Hello: 7, Delay: 6}, RootT: root, P: []api.Port{{}, p, {SendRSTP: !p.SendRSTP}}}
	got := NewWhile(x, 1)
	want := x
	want.P = slices.Clone(x.P)
	want.P[1].TcWhile, want.P[1].NewInfo = got.P[1].TcWhile, got.P[1].NewInfo
	same(t, "NewWhile", got, want)
	return got.P[1]
}

// P14.2: with RSTP: all hellos, and 1, 255 at most; there is news.
func TestNewWhileOfRSTP(t *testing.T) {
	for hello := range 256 {
		for _, news := range []bool{true, false} {
			p := while(t, api.Times{Age: 3, Max: 20, Hello: uint8(hello), Delay: 15}, api.Port{SendRSTP: true, NewInfo: news})
			if int(p.TcWhile) != min(hello+1, 255) || !p.NewInfo {
				t.Errorf("Hello %d: %d, %v", hello, p.TcWhile, p.NewInfo)
			}
		}
	}
}

// P14.2: with STP: all greatest ages and delays, together, 255 at most; news or not stays.
func TestNewWhileOfSTP(t *testing.T) {
	for greatest := range 256 {
		for delay := range 256 {
			news := (greatest+delay)%2 == 0
			p := while(t, api.Times{Age: 3, Max: uint8(greatest), Hello: 2, Delay: uint8(delay)}, api.Port{NewInfo: news})
			if int(p.TcWhile) != min(greatest+delay, 255) || p.NewInfo != news {
				t.Fatalf("Max %d, Delay %d: %d, %v", greatest, delay, p.TcWhile, p.NewInfo)
			}
		}
	}
}

// P14.2: a port that tells already: nothing changes.
func TestNewWhileRuns(t *testing.T) {
	for left := 1; left < 256; left++ {
		for bits := range 4 {
			rstp, news := bits&1 != 0, bits&2 != 0
			p := while(t, usual, api.Port{SendRSTP: rstp, NewInfo: news, TcWhile: uint8(left)})
			if int(p.TcWhile) != left || p.NewInfo != news {
				t.Fatalf("%d left: %d, %v", left, p.TcWhile, p.NewInfo)
			}
		}
	}
}

// P14.2: trees by chance, at all places.
func TestNewWhile(t *testing.T) {
	for _, x := range trees(4) {
		for i := range x.P {
			want := x
			want.P = slices.Clone(x.P)
			newWhile(want, i)
			same(t, "NewWhile", NewWhile(x, i), want)
		}
	}
}

// P14.3: trees by chance, at all places; each rule is met.
func TestTcm(t *testing.T) {
	seen := map[string]int{}
	for seed := range int64(3) {
		for _, x := range trees(5 + seed) {
			for i := range x.P {
				seen[hold(t, x, i)]++
			}
		}
	}
	met(t, seen)
}

// P14.3: each state and each role with all flags, so that which of the rules comes first is met in all ways.
func TestAllFlags(t *testing.T) {
	r := rand.New(rand.NewSource(8))
	about := []api.Tree{anyTree(r, 2), anyTree(r, 2), anyTree(r, 2)}
	seen := map[string]int{}
	for p := range ports(9) {
		x := one(r, about)
		x.P = []api.Port{x.P[0], p, x.P[1]}
		seen[hold(t, x, 1)]++
	}
	met(t, seen)
}

// The head: of a place that there is not: the tree as it was.
func TestNoSuchPort(t *testing.T) {
	for _, x := range trees(10) {
		for _, i := range []int{math.MinInt, -1, len(x.P), len(x.P) + 1, math.MaxInt} {
			y, ok := Tcm(x, i)
			if same(t, "Tcm", y, x); ok {
				t.Fatalf("a step of port %d of %d", i, len(x.P))
			}
			same(t, "Prop", Prop(x, i), x)
			same(t, "NewWhile", NewWhile(x, i), x)
		}
	}
}

// port is one of a role, in a state, that speaks RSTP; and changes to it.
func port(role api.Role, state api.State, changes ...func(p *api.Port)) api.Port {
	p := api.Port{ID: 0x8001, Role: role, Tcm: state, SendRSTP: true}
	for _, change := range changes {
		change(&p)
	}
	return p
}

// between is a port between two others, of the usual times.
func between(p api.Port) api.Tree {
	return api.Tree{RootT: usual, P: []api.Port{{ID: 1}, p, {ID: 2, TcProp: true}}}
}

// step is what one step, which must be there to take, makes of a port; the others are told of it, or nothing.
func step(t *testing.T, p api.Port, tells bool) api.Port {
	t.Helper()
	x := between(p)
	y, ok := Tcm(x, 1)
	if !ok {
		t.Fatalf("no step: %+v", p)
	}
	want := between(y.P[1])
	want.P[0].TcProp = tells
	same(t, "the others", y, want)
	return y.P[1]
}

// stays holds that there is no step for a port.
func stays(t *testing.T, what string, p api.Port) {
	t.Helper()
	x := between(p)
	y, ok := Tcm(x, 1)
	if ok {
		t.Errorf("%s: a step", what)
	}
	same(t, what, y, x)
}

// P14.3: what is no state begins quiet, whatever else the port is.
func TestBegins(t *testing.T) {
	r := rand.New(rand.NewSource(11))
	for _, state := range wrong {
		for range 200 {
			p := anyPort(r)
			p.Tcm = state
			want := p
			want.Flush, want.TcWhile, want.TcAck, want.Tcm = true, 0, false, api.TcmInactive
			if got := step(t, p, false); got != want {
				t.Fatalf("%+v", got)
			}
		}
	}
}

// P14.3: a quiet port learns once it may, and what was learned is gone; what came by then is let go.
func TestInactive(t *testing.T) {
	came := func(p *api.Port) { p.GotTC, p.GotTCN, p.GotAck, p.TcProp = true, true, true, true }
	for _, role := range append(slices.Clone(all), others...) {
		stays(t, "may not", port(role, api.TcmInactive, came, func(p *api.Port) { p.Forward, p.Learning = true, true }))
		stays(t, "is to be flushed", port(role, api.TcmInactive, came, func(p *api.Port) { p.Learn, p.Flush = true, true }))
		got := step(t, port(role, api.TcmInactive, came, func(p *api.Port) { p.Learn, p.TcWhile, p.TcAck = true, 3, true }), false)
		if want := port(role, api.TcmLearning, func(p *api.Port) { p.Learn, p.TcWhile, p.TcAck = true, 3, true }); got != want {
			t.Errorf("%+v", got)
		}
	}
}

// P14.3, the document's example: a port that forwards is a change; all others have TcProp.
func TestForwards(t *testing.T) {
	for _, role := range append(slices.Clone(all), others...) {
		for bits := range 8 {
			p := port(role, api.TcmLearning, func(p *api.Port) {
				p.Learn, p.Forward, p.SendRSTP = true, true, bits&1 != 0
				p.TcWhile = uint8(bits >> 1 & 1 * 9)
				p.NewInfo = bits&4 != 0
			})
			if role != api.Root && role != api.Designated {
				stays(t, "it has no place", p)
				continue
			}
			want := p
			want.Tcm, want.NewInfo = api.TcmActive, true
			if p.TcWhile == 0 {
				want.TcWhile = map[bool]uint8{true: 3, false: 35}[p.SendRSTP]
			}
			if got := step(t, p, true); got != want {
				t.Errorf("%+v", got)
			}
			p.Forward = false
			stays(t, "it only learns", p)
		}
	}
}

// P14.3: a port that has no place is quiet once it does nothing and nothing came; one that has is not.
func TestQuiet(t *testing.T) {
	for _, role := range append(slices.Clone(all), others...) {
		p := port(role, api.TcmLearning, func(p *api.Port) { p.TcWhile, p.TcAck = 3, true })
		if role == api.Root || role == api.Designated {
			stays(t, "it has a place", p)
			continue
		}
		want := port(role, api.TcmInactive, func(p *api.Port) { p.Flush = true })
		if got := step(t, p, false); got != want {
			t.Errorf("%+v", got)
		}
		p.Forward = true // that alone does not hold it
		want.Forward = true
		if got := step(t, p, false); got != want {
			t.Errorf("%+v", got)
		}
		p.Learn = true
		stays(t, "it may learn", p)
		p.Learn, p.Learning = false, true
		stays(t, "it learns", p)
	}
}

// whatCame are all flags of what a port was told.
var whatCame = []func(p *api.Port){
	func(p *api.Port) { p.GotTC = true },
	func(p *api.Port) { p.GotTCN = true },
	func(p *api.Port) { p.GotAck = true },
	func(p *api.Port) { p.TcProp = true },
}

// P14.3: each that may come to a port that learns is let go, and it is not quiet by that.
func TestLetsGo(t *testing.T) {
	for _, role := range append(slices.Clone(all), others...) {
		for bits := 1; bits < 16; bits++ {
			p := port(role, api.TcmLearning, func(p *api.Port) { p.TcWhile, p.TcAck = 3, true })
			want := p
			for n, came := range whatCame {
				if bits>>n&1 == 1 {
					came(&p)
				}
			}
			if got := step(t, p, false); got != want {
				t.Errorf("%+v", got)
			}
		}
	}
}

// P14.3: a port without a place learns again, whatever came; it tells nobody.
func TestNoPlace(t *testing.T) {
	for _, role := range append([]api.Role{api.Disabled, api.Alternate, api.Backup}, others...) {
		for bits := range 16 {
			p := port(role, api.TcmActive, func(p *api.Port) { p.TcWhile, p.Learn, p.Forward = 3, true, true })
			want := p
			want.Tcm = api.TcmLearning
			for n, came := range whatCame {
				if bits>>n&1 == 1 {
					came(&p)
				}
			}
			if got := step(t, p, false); got != want {
				t.Errorf("%+v", got)
			}
		}
	}
}

// P14.3: of what came to an active port first TCN and TC, then what others heard, then the answer, each once.
func TestActive(t *testing.T) {
	for _, role := range []api.Role{api.Root, api.Designated} {
		stays(t, "nothing came", port(role, api.TcmActive, func(p *api.Port) { p.TcWhile, p.Learn, p.Learning = 3, true, true }))
		for _, rstp := range []bool{true, false} {
			long := map[bool]uint8{true: 3, false: 35}[rstp]
			for bits := range 16 {
				p := port(role, api.TcmActive, func(p *api.Port) { p.SendRSTP = rstp })
				for n, came := range whatCame {
					if bits>>n&1 == 1 {
						came(&p)
					}
				}
				want := p
				if p.GotTC || p.GotTCN {
					want.GotTC, want.GotTCN, want.TcAck = false, false, role == api.Designated
					if p.GotTCN {
						want.TcWhile, want.NewInfo = long, rstp
					}
					if p = step(t, p, true); p != want {
						t.Fatalf("told: %+v", p)
					}
				}
				if p.TcProp {
					want.TcProp, want.Flush, want.TcWhile, want.NewInfo = false, true, long, rstp
					if p = step(t, p, false); p != want {
						t.Fatalf("others: %+v", p)
					}
				}
				if p.GotAck {
					want.GotAck, want.TcWhile = false, 0
					if p = step(t, p, false); p != want {
						t.Fatalf("ack: %+v", p)
					}
				}
				stays(t, "all was done", p)
			}
		}
	}
}

// P14.3: a port that has to answer goes on having to, whatever comes.
func TestAckStays(t *testing.T) {
	for n, came := range whatCame {
		for _, role := range []api.Role{api.Root, api.Designated} {
			p := port(role, api.TcmActive, func(p *api.Port) { p.TcAck = true }, came)
			if got := step(t, p, n < 2); !got.TcAck {
				t.Errorf("%+v", got)
			}
		}
	}
}

// P14.5: trees by chance, and each port with all flags between others: of others TcProp alone, to true, and nothing beside ports.
func TestSpread(t *testing.T) {
	told := map[api.State]int{}
	for _, x := range trees(12) {
		for i, p := range x.P {
			only(t, x, Prop(x, i), i)
			if only(t, x, NewWhile(x, i), i) > 0 {
				t.Fatalf("NewWhile tells others: %+v", p)
			}
			y, _ := Tcm(x, i)
			if told[p.Tcm] += only(t, x, y, i); y.P[i].TcProp && !p.TcProp {
				t.Fatalf("it told itself: %+v", p)
			}
		}
	}
	if len(told) < 2 || told[api.TcmLearning] < 50 || told[api.TcmActive] < 50 {
		t.Error(told)
	}
	delete(told, api.TcmLearning)
	delete(told, api.TcmActive)
	for state, n := range told {
		if n > 0 {
			t.Errorf("state %d tells", state)
		}
	}
}

// only holds that of ports but one TcProp alone was turned, to true; of how many.
func only(t *testing.T, x, y api.Tree, i int) int {
	t.Helper()
	turned := 0
	for k, p := range x.P {
		q := y.P[k]
		if k == i {
			continue
		}
		if q.TcProp != p.TcProp {
			turned++
		}
		if p.TcProp && !q.TcProp {
			t.Fatalf("port %d is told no more: %+v", k, q)
		}
		if q.TcProp = p.TcProp; q != p {
			t.Fatalf("port %d, of %d: %+v, was %+v", k, i, q, p)
		}
	}
	if y.P = x.P; !alike(x, y) {
		t.Fatalf("more than ports: %+v", y)
	}
	return turned
}

// P14.6: where nothing came: three steps at most, whatever the port is, be it flushed meanwhile or not.
func TestRest(t *testing.T) {
	most := map[bool]int{}
	for _, flushed := range []bool{false, true} {
		for p := range ports(13) {
			if p.GotTC || p.GotTCN || p.GotAck {
				continue
			}
			x, steps := between(p), 0
			for y, ok := Tcm(x, 1); ok; y, ok = Tcm(x, 1) {
				if steps++; steps > 3 {
					t.Fatalf("%+v does not rest", p)
				}
				if x = y; flushed {
					x.P[1].Flush = false
				}
			}
			most[flushed] = max(most[flushed], steps)
			if !slices.Contains(states, x.P[1].Tcm) || x.P[1].TcProp && x.P[1].Tcm != api.TcmInactive {
				t.Fatalf("rests: %+v", x.P[1])
			}
		}
	}
	if most[false] != 2 || most[true] != 3 {
		t.Error(most)
	}
}

// spoil changes all ports, and what stands behind them in memory.
func spoil(x api.Tree) {
	for i := range x.P {
		x.P[i] = api.Port{ID: 0xdead}
	}
	_ = append(x.P, api.Port{ID: 0xbeef})
}

// What is handed in stays, be there room behind its ports; what is told, where it changed, is one's own.
func TestOwnMemory(t *testing.T) {
	for name, call := range map[string]func(x api.Tree, i int) api.Tree{
		"Tcm":      func(x api.Tree, i int) api.Tree { y, _ := Tcm(x, i); return y },
		"Prop":     Prop,
		"NewWhile": NewWhile,
	} {
		for _, x := range trees(14) {
			for i := range x.P {
				room := append(slices.Clone(x.P), api.Port{ID: 0x1234})
				kept := slices.Clone(room)
				handed := x
				handed.P = room[:len(x.P)]
				first, second := call(handed, i), call(handed, i)
				if !slices.Equal(room, kept) {
					t.Fatal(name + ": what was handed in has changed")
				}
				if alike(first, x) {
					continue
				}
				want := second
				want.P = slices.Clone(second.P)
				spoil(first)
				if !slices.Equal(room, kept) {
					t.Fatal(name + ": what was handed in is shared")
				}
				spoil(handed)
				same(t, name+" shares memory", second, want)
			}
		}
	}
}

// The same is answered to the same.
func TestNothingKept(t *testing.T) {
	for _, x := range trees(15) {
		for i := range x.P {
			first, ok := Tcm(x, i)
			Tcm(api.Tree{P: make([]api.Port, 2)}, 1)
			again, too := Tcm(x, i)
			if same(t, "again", again, first); ok != too {
				t.Fatal("told otherwise")
			}
		}
	}
}
