package prt

import (
	"math"
	"math/rand"
	"slices"
	"testing"

	"pontage/api"
	"pontage/pim"
	rolesof "pontage/roles"
	"pontage/rvar"
)

// port is one of a role that it has, in a state, not held, with the usual times; and changes to it.
func port(role api.Role, state api.State, changes ...func(p *api.Port)) api.Port {
	p := api.Port{ID: 0x8001, Selected: true, Role: role, Wanted: role, Prt: state, DesigT: usual, SendRSTP: true, Synced: true}
	for _, change := range changes {
		change(&p)
	}
	return p
}

// step is what one step makes of a port with others about it, which must be there to take.
func step(t *testing.T, p api.Port, about ...api.Port) api.Tree {
	t.Helper()
	x, ok := Step(api.Tree{P: append([]api.Port{p}, about...)}, 0)
	if !ok {
		t.Fatalf("no step: %+v", p)
	}
	return x
}

// stays holds that there is no step for a port with others about it.
func stays(t *testing.T, what string, p api.Port, about ...api.Port) {
	t.Helper()
	x := api.Tree{P: append([]api.Port{p}, about...)}
	y, ok := Step(x, 0)
	if ok {
		t.Errorf("%s: a step", what)
	}
	same(t, what, y, x)
}

// P13.1: trees by chance, at all places; each rule is met.
func TestStep(t *testing.T) {
	seen := map[string]int{}
	for seed := range int64(3) {
		for _, x := range trees(seed) {
			for i := range x.P {
				seen[hold(t, x, i)]++
			}
		}
	}
	met(t, seen, names)
}

// flags are all of a port that the rules ask for, beside whether it is held.
func flags(p *api.Port) []*bool {
	return []*bool{
		&p.Agree, &p.Agreed, &p.Disputed, &p.Forward, &p.Forwarding, &p.Learn, &p.Learning,
		&p.Proposed, &p.Proposing, &p.ReRoot, &p.SendRSTP, &p.Sync, &p.Synced,
	}
}

// P13.1: each state with all flags, and timers at what they are held against, and not; which of the rules comes first is met in all ways.
func TestAllFlags(t *testing.T) {
	seen := map[string]int{}
	r := rand.New(rand.NewSource(4))
	about := []api.Tree{anyTree(r, 2), anyTree(r, 2), anyTree(r, 2), anyTree(r, 2)}
	for n := range about {
		for k := range about[n].P {
			calm(&about[n].P[k])
		}
	}
	about[1].P[0].RrWhile = 1
	about[2].P[1].Synced, about[2].P[1].Role, about[2].P[1].Wanted = false, api.Designated, api.Designated
	about[3].P[1].Update = true
	for _, state := range states {
		for bits := range 1 << 13 {
			for timer := range 9 {
				x := one(r, about)
				p := port(one(r, roles), state)
				for n, flag := range flags(&p) {
					*flag = bits>>n&1 == 1
				}
				p.FdWhile = [...]uint8{0, 1, p.DesigT.Delay}[timer%3]
				p.RrWhile = [...]uint8{0, 1, p.DesigT.Delay}[timer/3]
				p.Backup = one(r, []uint8{0, 3, 4})
				if state == api.PrtDisabled && p.FdWhile == p.DesigT.Delay {
					p.FdWhile = p.DesigT.Max
				}
				x.P = []api.Port{x.P[0], p, x.P[1]}
				seen[hold(t, x, 1)]++
			}
		}
	}
	met(t, seen, slices.DeleteFunc(slices.Clone(names), func(name string) bool {
		return name == "begins" || name == "held" || slices.Contains(names[3:7], name)
	}))
}

// P13.1: a port that there is not.
func TestNoSuchPort(t *testing.T) {
	for _, x := range trees(5) {
		for _, i := range []int{math.MinInt, -1, len(x.P), len(x.P) + 1, math.MaxInt} {
			y, ok := Step(x, i)
			if same(t, "no such port", y, x); ok {
				t.Fatalf("a step of port %d of %d", i, len(x.P))
			}
		}
	}
}

// P13.1, the document's example: as it begins, whatever it was, held or not.
func TestBegins(t *testing.T) {
	r := rand.New(rand.NewSource(6))
	for _, state := range wrong {
		for n := range 200 {
			p := anyPort(r)
			p.Prt, p.Selected, p.Update = state, n%2 == 0, n%4 < 2
			p.DesigT = api.Times{Age: 1, Max: 20, Hello: 2, Delay: 15}
			q := step(t, p).P[0]
			if q.Prt != api.PrtDisable || q.Role != api.Disabled || !q.Sync || !q.ReRoot || q.Learn || q.Forward || q.Synced || q.RrWhile != 15 || q.FdWhile != 20 || q.Backup != 0 {
				t.Fatalf("%+v", q)
			}
			if q.Learning != p.Learning || q.Forwarding != p.Forwarding || q.Wanted != p.Wanted || q.Agree != p.Agree {
				t.Fatalf("more was changed: %+v", q)
			}
		}
	}
	for _, state := range states {
		stays(t, "has begun", port(api.Disabled, state, func(p *api.Port) { p.Selected = false }))
	}
}

// P13.1: each role, and what is none, from each state; a role that the port has is not taken again.
func TestTakesRole(t *testing.T) {
	r := rand.New(rand.NewSource(7))
	for _, state := range states {
		for _, from := range append(slices.Clone(roles), others...) {
			for _, to := range append(slices.Clone(roles), others...) {
				if from == to {
					continue
				}
				p := anyPort(r)
				p.Prt, p.Role, p.Wanted, p.Selected, p.Update = state, from, to, true, false
				p.DesigT.Delay, p.RrWhile = 15, 7
				want := p
				switch want.Role = to; to {
				case api.Root:
					want.Prt, want.RrWhile = api.PrtRoot, 15
				case api.Designated:
					want.Prt = api.PrtDesig
				case api.Disabled:
					want.Prt, want.Learn, want.Forward = api.PrtDisable, false, false
				default:
					want.Prt, want.Learn, want.Forward = api.PrtBlock, false, false
				}
				same(t, "takes a role", step(t, p), api.Tree{P: []api.Port{want}})
			}
		}
	}
}

// P13.1: a port is disabled, or blocked, once it does nothing any more; what it was asked for it has done by that.
func TestDoesNothing(t *testing.T) {
	for _, c := range []struct {
		role       api.Role
		from, then api.State
		wait       uint8
	}{
		{api.Disabled, api.PrtDisable, api.PrtDisabled, 20},
		{api.Alternate, api.PrtBlock, api.PrtAlternate, 15},
		{api.Backup, api.PrtBlock, api.PrtAlternate, 15},
	} {
		stays(t, "still learns", port(c.role, c.from, func(p *api.Port) { p.Learning = true }))
		stays(t, "still forwards", port(c.role, c.from, func(p *api.Port) { p.Forwarding = true }))
		want := port(c.role, c.then, func(p *api.Port) { p.FdWhile, p.Agree, p.Backup = c.wait, true, 4 })
		stays(t, "rests", want)
		from := want
		from.Prt, from.FdWhile, from.RrWhile, from.Synced, from.Sync, from.ReRoot = c.from, 1, 3, false, true, true
		same(t, "ends", step(t, from), api.Tree{P: []api.Port{want}})
		for n, ask := range []func(p *api.Port){
			func(p *api.Port) { p.FdWhile-- },
			func(p *api.Port) { p.FdWhile = 0 },
			func(p *api.Port) { p.Sync = true },
			func(p *api.Port) { p.ReRoot = true },
			func(p *api.Port) { p.Synced = false },
		} {
			p := want
			ask(&p)
			if got := step(t, p).P[0]; got != want {
				t.Errorf("asked for %d: %+v", n, got)
			}
		}
	}
}

// P13.1: twice Hello, all of them, 255 at most; of a Backup port alone.
func TestBackup(t *testing.T) {
	for hello := range 256 {
		p := port(api.Backup, api.PrtAlternate, func(p *api.Port) {
			p.DesigT.Hello, p.FdWhile, p.Agree, p.Backup = uint8(hello), 15, true, 253
		})
		want := uint8(min(2*hello, 255))
		p = step(t, p).P[0]
		if p.Backup != want {
			t.Errorf("Hello %d: %d", hello, p.Backup)
		}
		stays(t, "has it", p)
		for _, role := range []api.Role{api.Disabled, api.Alternate, api.Root, api.Designated, 9} {
			p.Role, p.Wanted, p.Backup = role, role, 253
			stays(t, "no backup", p)
		}
	}
}

// P13.1: a root port goes on when it waited, or at once, where no other one was root lately and it was no backup.
func TestRootGoesOn(t *testing.T) {
	calmly := port(api.Designated, api.PrtDesig)
	lately := port(api.Designated, api.PrtDesig, func(p *api.Port) { p.RrWhile = 1 })
	for _, c := range []struct {
		name   string
		wait   uint8
		backup uint8
		about  []api.Port
		goes   bool
	}{
		{"waited", 0, 9, []api.Port{lately, calmly}, true},
		{"at once", 15, 0, []api.Port{calmly, calmly}, true},
		{"at once, alone", 1, 0, nil, true},
		{"it was a backup", 15, 1, []api.Port{calmly}, false},
		{"another one was root", 15, 0, []api.Port{calmly, lately}, false},
		{"another one was root, the first", 15, 0, []api.Port{lately, calmly}, false},
	} {
		p := port(api.Root, api.PrtRoot, func(p *api.Port) {
			p.Agree, p.ReRoot, p.RrWhile, p.FdWhile, p.Backup = true, true, 15, c.wait, c.backup
		})
		if !c.goes {
			stays(t, c.name, p, c.about...)
			continue
		}
		for _, rstp := range []bool{true, false} {
			p.SendRSTP = rstp
			want := map[bool]uint8{true: 2, false: 15}[rstp]
			q := step(t, p, c.about...).P[0]
			if !q.Learn || q.Forward || q.FdWhile != want {
				t.Errorf("%s: %+v", c.name, q)
			}
			q.FdWhile = c.wait
			if q = step(t, q, c.about...).P[0]; !q.Learn || !q.Forward || q.FdWhile != 0 {
				t.Errorf("%s: %+v", c.name, q)
			}
		}
	}
}

// P13.1: a designated port goes on when it waited, or its neighbour agreed, and nobody asks it to hold.
func TestDesignatedGoesOn(t *testing.T) {
	base := port(api.Designated, api.PrtDesig, func(p *api.Port) { p.Proposing, p.FdWhile = true, 15 })
	stays(t, "waits", base)
	for n, c := range []struct {
		change func(p *api.Port)
		goes   bool
	}{
		{func(p *api.Port) { p.FdWhile = 0 }, true},
		{func(p *api.Port) { p.Agreed = true }, true},
		{func(p *api.Port) { p.FdWhile = 1 }, false},
		{func(p *api.Port) { p.Agreed, p.RrWhile = true, 9 }, true},
		{func(p *api.Port) { p.Agreed, p.RrWhile, p.ReRoot = true, 9, true }, false},
		{func(p *api.Port) { p.Agreed, p.Disputed = true, true }, true}, // disputed, but it does nothing that it could stop
	} {
		for _, rstp := range []bool{true, false} {
			p := base
			p.SendRSTP = rstp
			c.change(&p)
			if !c.goes {
				stays(t, "holds", p)
				continue
			}
			q := step(t, p).P[0]
			if !q.Learn || q.Forward || q.FdWhile != map[bool]uint8{true: 2, false: 15}[rstp] || q.Agreed != p.Agreed {
				t.Errorf("%d learns: %+v", n, q)
			}
			q.FdWhile, q.Disputed = p.FdWhile, false
			if q = step(t, q).P[0]; !q.Learn || !q.Forward || q.FdWhile != 0 || q.Agreed != rstp {
				t.Errorf("%d forwards: %+v", n, q)
			}
		}
	}
}

// P13.1: what a designated port stops for; it does so only if it does anything.
func TestDesignatedStops(t *testing.T) {
	for n, why := range []func(p *api.Port){
		func(p *api.Port) { p.Sync, p.Synced = true, false },
		func(p *api.Port) { p.ReRoot, p.RrWhile = true, 1 },
		func(p *api.Port) { p.Disputed = true },
	} {
		for on := range 4 {
			p := port(api.Designated, api.PrtDesig, why, func(p *api.Port) {
				p.Learn, p.Forward, p.Learning, p.Proposing, p.FdWhile, p.SendRSTP = on&1 != 0, on&2 != 0, true, true, 9, on == 3
			})
			if on == 0 {
				stays(t, "nothing to stop", p)
				continue
			}
			want := p
			want.Learn, want.Forward, want.Disputed, want.FdWhile = false, false, false, map[bool]uint8{true: 2, false: 15}[on == 3]
			if got := step(t, p).P[0]; got != want {
				t.Errorf("why %d, on %d: %+v", n, on, got)
			}
		}
	}
}

// P13.2: each step of trees by chance: what forwards had learned, as Root's or Designated's state; no other role that was given keeps either.
func TestAheadOfForwarding(t *testing.T) {
	count, given := 0, 0
	for _, x := range trees(8) {
		for i, p := range x.P {
			y, _ := Step(x, i)
			for k, q := range y.P {
				if !q.Forward || x.P[k].Forward {
					continue
				}
				if count++; k != i || !p.Learn || p.Prt != api.PrtRoot && p.Prt != api.PrtDesig {
					t.Fatalf("port %d forwards: %+v", k, p)
				}
			}
			if q := y.P[i]; q.Role != p.Role && q.Role != api.Root && q.Role != api.Designated {
				if given++; q.Learn || q.Forward {
					t.Fatalf("%+v", q)
				}
			}
		}
	}
	if count < 100 || given < 100 {
		t.Error(count, given)
	}
}

// P13.2, P13.3, P13.4: long ways of ports about which anything else happens.
func TestLongWays(t *testing.T) {
	r := rand.New(rand.NewSource(9))
	took := 0
	for range 300 {
		x := anyTree(r, 1+r.Intn(4))
		gave := make([]bool, len(x.P)) // the port's role was given by a step
		for range 200 {
			i := r.Intn(len(x.P))
			happen(r, &x.P[i])
			y, ok := Step(x, i)
			if ok {
				took++
			}
			gave[i] = gave[i] || y.P[i].Role != x.P[i].Role
			held(t, x, y, i)
			for k, p := range y.P {
				if gave[k] && p.Role != api.Root && p.Role != api.Designated && (p.Learn || p.Forward) {
					t.Fatalf("port %d: %+v", k, p)
				}
			}
			x = y
		}
	}
	if took < 10000 {
		t.Error(took)
	}
}

// happen changes anything of a port by chance, but what this machine alone changes.
func happen(r *rand.Rand, p *api.Port) {
	q := anyPort(r)
	q.Learn, q.Forward, q.Role, q.Prt = p.Learn, p.Forward, p.Role, p.Prt
	if meet(r, &q); r.Intn(2) == 0 {
		q.Wanted = p.Role
		q.Selected, q.Update = true, false
	}
	*p = q
}

// held holds what follows of any step: of other ports Sync and ReRoot alone, to true; to agree only where all others are in step.
func held(t *testing.T, x, y api.Tree, i int) {
	t.Helper()
	for k, p := range x.P {
		if k == i {
			continue
		}
		q := y.P[k]
		if p.Sync && !q.Sync || p.ReRoot && !q.ReRoot {
			t.Fatalf("port %d, of a step of %d: %+v", k, i, q)
		}
		q.Sync, q.ReRoot = p.Sync, p.ReRoot
		if p != q {
			t.Fatalf("port %d, of a step of %d: %+v, was %+v", k, i, q, p)
		}
		if y.P[i].Agree && !x.P[i].Agree && !p.Synced && p.Role != api.Root {
			t.Fatalf("port %d agrees, %d is not in step: %+v", i, k, p)
		}
	}
	z := y
	if z.P = x.P; !alike(z, x) {
		t.Fatalf("more than ports: %+v", y)
	}
}

// P13.3: trees by chance; both are turned, and by Root and Alternate alone.
func TestOthers(t *testing.T) {
	syncs, reroots := map[api.State]int{}, map[api.State]int{}
	for _, x := range trees(10) {
		for i, p := range x.P {
			y, _ := Step(x, i)
			held(t, x, y, i)
			for k := range y.P {
				if k != i && y.P[k].Sync != x.P[k].Sync {
					syncs[p.Prt]++
				}
				if k != i && y.P[k].ReRoot != x.P[k].ReRoot {
					reroots[p.Prt]++
				}
			}
		}
	}
	if len(syncs) != 2 || syncs[api.PrtRoot] < 20 || syncs[api.PrtAlternate] < 20 || len(reroots) != 1 || reroots[api.PrtRoot] < 20 {
		t.Error(syncs, reroots)
	}
}

// P13.4: one other port that is not in step is enough, wherever it is; one of Role Root is no hindrance.
func TestInStepAheadOfAgreeing(t *testing.T) {
	for _, state := range []api.State{api.PrtRoot, api.PrtAlternate} {
		role := map[api.State]api.Role{api.PrtRoot: api.Root, api.PrtAlternate: api.Alternate}[state]
		for n := 1; n <= 8; n++ {
			for at := range n {
				x := api.Tree{P: slices.Repeat([]api.Port{port(api.Designated, api.PrtDesig)}, n)}
				x.P[at] = port(role, state, func(p *api.Port) { p.FdWhile, p.RrWhile, p.Sync, p.Synced = 15, 15, true, false })
				y, ok := Step(x, at)
				if p := y.P[at]; !ok || !p.Agree || !p.NewInfo || p.Proposed || p.Sync != (state == api.PrtAlternate) {
					t.Fatalf("%d of %d: %+v", at, n, p)
				}
				for k := range n {
					if k == at {
						continue
					}
					x.P[k].Synced = false
					if y, _ = Step(x, at); y.P[at].Agree {
						t.Fatalf("%d of %d agrees, %d is not in step", at, n, k)
					}
					x.P[k].Role, x.P[k].Wanted = api.Root, api.Root
					if y, _ = Step(x, at); !y.P[at].Agree {
						t.Fatalf("%d of %d does not agree, %d is root", at, n, k)
					}
					x.P[k] = port(api.Designated, api.PrtDesig)
				}
			}
		}
	}
}

// P13.4: to be asked again where it agreed; not to agree ahead of asking the others, where it did not.
func TestProposed(t *testing.T) {
	loose := port(api.Designated, api.PrtDesig, func(p *api.Port) { p.Synced = false })
	for _, state := range []api.State{api.PrtRoot, api.PrtAlternate} {
		role := map[api.State]api.Role{api.PrtRoot: api.Root, api.PrtAlternate: api.Alternate}[state]
		p := port(role, state, func(p *api.Port) { p.Proposed, p.Agree, p.Sync = true, true, true })
		x := step(t, p, loose)
		if q := x.P[0]; q.Proposed || !q.Agree || !q.NewInfo || q.Sync != (state == api.PrtAlternate) || x.P[1] != loose {
			t.Errorf("again: %+v", x.P)
		}
		p.Agree, p.Sync = false, false
		for _, other := range []api.Port{loose, port(api.Designated, api.PrtDesig)} {
			x = step(t, p, other)
			if q := x.P[0]; q.Proposed || q.Agree || q.NewInfo || !q.Sync || !x.P[1].Sync {
				t.Errorf("asks: %+v", x.P)
			}
		}
	}
}

// P13.5: each state, each role that is wanted, trees by chance; only what begins goes on.
func TestHeld(t *testing.T) {
	begins := 0
	for n, x := range trees(11) {
		for i := range x.P {
			switch p := &x.P[i]; n % 3 {
			case 0:
				p.Selected = false
			case 1:
				p.Update = true
			default:
				p.Selected, p.Update = false, true
			}
			y, ok := Step(x, i)
			if slices.Contains(states, x.P[i].Prt) {
				if same(t, "held", y, x); ok {
					t.Fatalf("a step of %+v", x.P[i])
				}
				continue
			}
			if begins++; !ok || y.P[i].Prt != api.PrtDisable {
				t.Fatalf("does not begin: %+v", y.P[i])
			}
		}
	}
	if begins < 100 {
		t.Error(begins)
	}
}

// spoil changes all ports, and what stands behind them in memory.
func spoil(x api.Tree) {
	for i := range x.P {
		x.P[i] = api.Port{ID: 0xdead}
	}
	_ = append(x.P, api.Port{ID: 0xbeef})
}

// What is handed in stays, be there room behind its ports; what is told of a step is one's own.
func TestOwnMemory(t *testing.T) {
	for _, x := range trees(12) {
		for i := range x.P {
			room := append(slices.Clone(x.P), api.Port{ID: 0x1234})
			kept := slices.Clone(room)
			handed := x
			handed.P = room[:len(x.P)]
			first, ok := Step(handed, i)
			second, _ := Step(handed, i)
			if !slices.Equal(room, kept) {
				t.Fatal("what was handed in has changed")
			}
			if !ok {
				continue
			}
			want := rvar.Copy(second)
			spoil(first)
			if !slices.Equal(room, kept) {
				t.Fatal("what was handed in is shared")
			}
			spoil(handed)
			same(t, "shares memory", second, want)
		}
	}
}

// lead leads the machines below, and this one, till none has a step to take; ports do at once what they may.
func lead(t *testing.T, x api.Tree) api.Tree {
	t.Helper()
	for range 100 {
		moved := false
		take := func(next api.Tree, ok bool) { x, moved = next, moved || ok }
		take(rolesof.Step(x))
		for i := range x.P {
			take(pim.Step(x, i))
			take(Step(x, i))
			p := &x.P[i]
			p.Learning, p.Forwarding = p.Learn, p.Learn && p.Forward
		}
		if !moved {
			return x
		}
	}
	t.Fatalf("does not rest: %+v", x)
	return x
}

// begun is a bridge of two ports that are up, led to rest; its neighbours speak RSTP or not.
func begun(t *testing.T, rstp bool) api.Tree {
	t.Helper()
	x, e := rvar.New(api.RstpConf{ID: 0x8000<<48 | 5, T: usual, TxHold: 6, Costs: []uint32{10, 10}})
	if e != api.OK {
		t.Fatal(e)
	}
	for i := range x.P {
		x.P[i].Up, x.P[i].SendRSTP = true, rstp
	}
	return lead(t, x)
}

// ticks is a tree as many seconds later.
func ticks(t *testing.T, x api.Tree, n int) api.Tree {
	t.Helper()
	for range n {
		x = lead(t, rvar.Tick(x))
	}
	return x
}

// P13.1, with the layers below: ports of which nobody hears learn, and then forward, behind their waits.
func TestAlone(t *testing.T) {
	for _, rstp := range []bool{true, false} {
		x := begun(t, rstp)
		second := map[bool]int{true: 2, false: 15}[rstp]
		for _, c := range []struct {
			wait           int
			learn, forward bool
		}{{0, false, false}, {19, false, false}, {1, true, false}, {second - 1, true, false}, {1, true, true}, {50, true, true}} {
			x = ticks(t, x, c.wait)
			for i, p := range x.P {
				if p.Role != api.Designated || p.Learn != c.learn || p.Forward != c.forward {
					t.Fatalf("port %d behind %d: %+v", i, c.wait, p)
				}
			}
		}
		x = lead(t, rvar.Up(x, 1, false))
		if p := x.P[1]; p.Role != api.Disabled || p.Learn || p.Forward || p.Prt != api.PrtDisabled || !x.P[0].Forward {
			t.Fatalf("down: %+v", p)
		}
	}
}

// P13.1, with the layers below: a better bridge proposes; the other port, which forwarded, stops, and then the port agrees, and forwards.
func TestProposalComes(t *testing.T) {
	x := ticks(t, begun(t, true), 40)
	m := api.BPDU{Kind: api.RST, Role: api.Designated, Proposal: true, V: api.Vector{Root: 3, Bridge: 3, Port: 0x8001}, T: usual}
	x.P[1].Agreed, x.P[1].Synced = false, false
	x = lead(t, pim.Hear(x, 0, m))
	if p := x.P[0]; p.Role != api.Root || !p.Agree || !p.Forward || p.RrWhile != 15 {
		t.Errorf("the root port: %+v", p)
	}
	if p := x.P[1]; p.Role != api.Designated || p.Learn || p.Forward || !p.Synced || !p.Proposing {
		t.Errorf("the other port: %+v", p)
	}
	agreed := api.BPDU{Kind: api.RST, Role: api.Root, Agreement: true, V: x.P[1].Desig, T: usual}
	x = lead(t, pim.Hear(x, 1, agreed))
	if p := x.P[1]; !p.Learn || !p.Forward || p.Proposing {
		t.Errorf("agreed: %+v", p)
	}
}

// P13.1, with the layers below: where the root port goes down, the alternate one is root at once, and forwards.
func TestAlternateIsRootAtOnce(t *testing.T) {
	x := begun(t, true)
	m := api.BPDU{Kind: api.RST, Role: api.Designated, V: api.Vector{Root: 3, Bridge: 3, Port: 0x8001}, T: usual}
	x = lead(t, pim.Hear(x, 0, m))
	m.V.Port++
	x = lead(t, pim.Hear(x, 1, m))
	if x.P[0].Role != api.Root || !x.P[0].Forward || x.P[1].Role != api.Alternate || x.P[1].Learn || x.P[1].Forward || x.P[1].Prt != api.PrtAlternate {
		t.Fatalf("%+v", x.P)
	}
	x = lead(t, rvar.Up(x, 0, false))
	if x.P[0].Role != api.Disabled || x.P[0].Forward || x.P[1].Role != api.Root || !x.P[1].Learn || !x.P[1].Forward {
		t.Errorf("%+v", x.P)
	}
}

// The same is answered to the same.
func TestNothingKept(t *testing.T) {
	for _, x := range trees(13) {
		for i := range x.P {
			first, ok := Step(x, i)
			Step(api.Tree{P: make([]api.Port, 2)}, 1)
			again, too := Step(x, i)
			if same(t, "again", again, first); ok != too {
				t.Fatal("told otherwise")
			}
		}
	}
}
