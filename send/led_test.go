package send

import (
	"slices"
	"testing"

	"pontage/api"
	"pontage/change"
	"pontage/pim"
	"pontage/prt"
	"pontage/roles"
	"pontage/rvar"
)

// lead leads the machines below, and these, till none has a step to take; what went out on the way.
func lead(t *testing.T, x api.Tree) (api.Tree, []api.Out) {
	t.Helper()
	var sent []api.Out
	for range 100 {
		moved := false
		take := func(next api.Tree, ok bool) { x, moved = next, moved || ok }
		take(roles.Step(x))
		for i := range x.P {
			take(pim.Step(x, i))
			take(prt.Step(x, i))
			p, ok := change.Pst(x.P[i])
			x = rvar.Copy(x)
			x.P[i], moved = p, moved || ok
			take(change.Tcm(x, i))
			if x.P[i].Flush {
				x = rvar.Copy(x)
				x.P[i].Flush, moved = false, true
			}
			take(Ppm(x, i))
			next, out, ok := Ptx(x, i)
			take(next, ok)
			sent = append(sent, out...)
		}
		if !moved {
			return x, sent
		}
	}
	t.Fatalf("does not rest: %+v", x)
	return x, nil
}

// fresh is a bridge of a number, with as many ports, led to rest; none is up, and nothing goes out.
func fresh(t *testing.T, id uint64, ports int) api.Tree {
	t.Helper()
	x, e := rvar.New(api.RstpConf{ID: 0x8000<<48 | id, T: usual, TxHold: 6, Costs: slices.Repeat([]uint32{10}, ports)})
	if e != api.OK {
		t.Fatal(e)
	}
	x, out := lead(t, x)
	if len(out) > 0 {
		t.Fatalf("ports that are down send %+v", out)
	}
	return x
}

// With the layers below: a bridge's port comes up, tells who it is, and then proposes.
func TestComesUp(t *testing.T) {
	_, out := lead(t, rvar.Up(fresh(t, 5, 3), 0, true))
	if len(out) != 2 {
		t.Fatalf("%+v", out)
	}
	for n, o := range out {
		if o.Port != 0 || o.M.Kind != api.RST || o.M.Role != api.Designated || o.M.Proposal != (n == 1) || o.M.Agreement || o.M.V.Root != 0x8000<<48|5 || o.M.T != usual {
			t.Errorf("%+v", o)
		}
	}
}

// With the layers below: a port that nobody hears tells again behind each hello, no more often, but as it learns and forwards.
func TestTellsAgain(t *testing.T) {
	x, _ := lead(t, rvar.Up(fresh(t, 5, 2), 1, true))
	silent, told := 0, 0
	for tick := 1; tick <= 100; tick++ {
		var out []api.Out
		x, out = lead(t, rvar.Tick(x))
		for _, o := range out {
			if o.Port != 1 || o.M.Kind != api.RST || o.M.Role != api.Designated {
				t.Fatalf("tick %d: %+v", tick, o)
			}
		}
		if silent++; len(out) > 0 {
			silent = 0
		}
		if silent > 1 {
			t.Fatalf("tick %d: silent for %d", tick, silent)
		}
		if tick > 40 {
			told += len(out)
		}
	}
	if told != 30 {
		t.Errorf("%d messages in 60 seconds", told)
	}
}

// hear is a bridge to whose port a message came, led to rest.
func hear(t *testing.T, x api.Tree, i int, m api.BPDU) (api.Tree, []api.Out) {
	t.Helper()
	return lead(t, pim.Hear(x, i, m))
}

// worse is a message that changes nothing of the tree.
func worse(kind api.MsgKind) api.BPDU {
	if kind == api.TCN {
		return api.BPDU{Kind: kind}
	}
	m := api.BPDU{Kind: kind, V: api.Vector{Root: 0xf000<<48 | 9, Bridge: 0xf000<<48 | 9, Port: 0x8001}, T: usual}
	if kind == api.RST {
		m.Role = api.Designated
	}
	return m
}

// P15.6, with the layers below: behind 3 seconds of STP's messages a port speaks STP, not earlier; of RSTP's, behind 3 more, RSTP. The other port goes on as it was.
func TestFallsBack(t *testing.T) {
	for _, kind := range []api.MsgKind{api.Config, api.TCN} {
		x := fresh(t, 5, 2)
		for i := range x.P {
			x, _ = lead(t, rvar.Up(x, i, true))
		}
		listen := func(from, to int, m api.BPDU, early, late bool) {
			t.Helper()
			for tick := from; tick <= to; tick++ {
				want := early
				if tick >= 3 {
					want = late
				}
				x, _ = lead(t, rvar.Tick(x))
				if x, _ = hear(t, x, 0, m); x.P[0].SendRSTP != want || !x.P[1].SendRSTP {
					t.Fatalf("kind %d, tick %d: RSTP %v, %v", m.Kind, tick, x.P[0].SendRSTP, x.P[1].SendRSTP)
				}
				spoken := Message(x, 0).Kind
				if (spoken == api.RST) != want || Message(x, 1).Kind != api.RST {
					t.Fatalf("kind %d, tick %d: speaks %d", m.Kind, tick, spoken)
				}
			}
		}
		x, _ = hear(t, x, 0, worse(kind)) // at once: too early to count
		if !x.P[0].SendRSTP {
			t.Fatal("at once")
		}
		listen(1, 3, worse(kind), true, false)
		listen(1, 2, worse(api.RST), false, false)
		listen(3, 40, worse(api.RST), false, true)
		listen(3, 40, worse(kind), true, false)
		listen(3, 40, worse(api.RST), true, true)
	}
}

// P15.6: which version is told by machines alone, whatever is heard ahead of the 3 seconds' end; then what was heard last counts, and what was heard ahead does not.
func TestHeardTooEarly(t *testing.T) {
	x := api.Tree{P: []api.Port{{Up: true}}}
	run := func() {
		for next, ok := Ppm(x, 0); ok; next, ok = Ppm(x, 0) {
			x = next
		}
	}
	run()
	for range 3 {
		x = pim.Hear(pim.Hear(x, 0, worse(api.Config)), 0, worse(api.RST))
		run()
		x = rvar.Tick(x)
		run()
	}
	if p := x.P[0]; !p.SendRSTP || p.Ppm != api.PpmSensing || p.GotSTP || p.GotRSTP {
		t.Fatalf("%+v", p)
	}
	x = pim.Hear(x, 0, worse(api.RST))
	run()
	if p := x.P[0]; !p.SendRSTP || p.Ppm != api.PpmSensing {
		t.Fatalf("%+v", p)
	}
	x = pim.Hear(x, 0, worse(api.TCN))
	run()
	if p := x.P[0]; p.SendRSTP || p.Ppm != api.PpmSelecting || p.Migrate != 3 {
		t.Fatalf("%+v", p)
	}
	for range 300 {
		x = pim.Hear(rvar.Tick(x), 0, worse(api.Config))
		if run(); x.P[0].SendRSTP {
			t.Fatal("speaks RSTP")
		}
	}
}

// P15.6: a port that speaks STP and goes down speaks RSTP when it comes up again, and checks anew for 3 seconds.
func TestDownForgets(t *testing.T) {
	x, _ := lead(t, rvar.Up(fresh(t, 5, 1), 0, true))
	for range 5 {
		x, _ = lead(t, rvar.Tick(x))
		x, _ = hear(t, x, 0, worse(api.Config))
	}
	if x.P[0].SendRSTP {
		t.Fatal("speaks RSTP")
	}
	x, _ = lead(t, rvar.Up(x, 0, false))
	if p := x.P[0]; !p.SendRSTP || p.Ppm != api.PpmChecking || p.Migrate != 3 {
		t.Errorf("%+v", p)
	}
	x, out := lead(t, rvar.Tick(x))
	if p := x.P[0]; len(out) > 0 || p.Migrate != 3 {
		t.Errorf("%+v, %+v", out, p)
	}
	x, out = lead(t, rvar.Up(x, 0, true))
	if len(out) == 0 || out[0].M.Kind != api.RST {
		t.Errorf("%+v", out)
	}
}

// With the layers below: a bridge among STP's: a TCN goes out of its root port behind each hello, till it is answered; what it is told goes out of its designated port, and is answered there.
func TestAmongSTP(t *testing.T) {
	x := fresh(t, 5, 2)
	for i := range x.P {
		x, _ = lead(t, rvar.Up(x, i, true))
	}
	better := api.BPDU{Kind: api.Config, V: api.Vector{Root: 3, Bridge: 3, Port: 0x8001}, T: usual}
	for range 60 {
		x, _ = lead(t, rvar.Tick(x))
		x, _ = hear(t, x, 0, better)
		x, _ = hear(t, x, 1, worse(api.Config))
	}
	if x.P[0].Role != api.Root || x.P[1].Role != api.Designated || !x.P[0].Forwarding || !x.P[1].Forwarding || x.P[0].SendRSTP || x.P[1].SendRSTP {
		t.Fatalf("%+v", x.P)
	}
	second := func(root api.BPDU) (tcn, config, acks int) {
		var out []api.Out
		gather := func(y api.Tree, more []api.Out) { x, out = y, append(out, more...) }
		gather(lead(t, rvar.Tick(x)))
		gather(hear(t, x, 0, root))
		for _, o := range out {
			switch {
			case o.Port == 0 && o.M.Kind == api.TCN:
				tcn++
			case o.Port == 1 && o.M.Kind == api.Config && o.M.V.Root == 3 && o.M.V.Cost == 10:
				config++
				if o.M.Ack {
					acks++
				}
			default:
				t.Fatalf("%+v", o)
			}
		}
		return tcn, config, acks
	}
	for x.P[0].TcWhile > 0 { // its own beginning was a change
		second(better)
	}
	x, _ = hear(t, x, 1, api.BPDU{Kind: api.TCN})
	var tcns, configs, acks int
	for range 10 {
		tcn, config, ack := second(better)
		tcns, configs, acks = tcns+tcn, configs+config, acks+ack
	}
	if tcns != 5 || configs < 5 || acks != 1 {
		t.Errorf("ahead of the answer: %d, %d, %d", tcns, configs, acks)
	}
	answer := better
	answer.Ack = true
	second(answer)
	for range 20 {
		if tcn, _, ack := second(better); tcn > 0 || ack > 0 {
			t.Errorf("behind it: %d, %d", tcn, ack)
		}
	}
}

// With the layers below: two bridges that hear each other at once: the one of the lower number is the root; the other one's port is Root; both forward soon. All that goes out is held.
func TestTwo(t *testing.T) {
	pair := [2]api.Tree{fresh(t, 7, 1), fresh(t, 5, 1)}
	var wires [2][]api.Out // what waits to be heard by each
	event := func(n int, x api.Tree) {
		var out []api.Out
		pair[n], out = lead(t, x)
		wires[1-n] = append(wires[1-n], out...)
	}
	deliver := func() {
		for most := 0; len(wires[0])+len(wires[1]) > 0; most++ {
			if most > 100 {
				t.Fatal("they talk for ever")
			}
			for n := range wires {
				if len(wires[n]) > 0 {
					m := wires[n][0].M
					wires[n] = wires[n][1:]
					event(n, pim.Hear(pair[n], 0, m))
				}
			}
		}
	}
	for n := range pair {
		event(n, rvar.Up(pair[n], 0, true))
	}
	deliver()
	for range 12 {
		for n := range pair {
			event(n, rvar.Tick(pair[n]))
		}
		deliver()
	}
	for n, role := range []api.Role{api.Root, api.Designated} {
		if p := pair[n].P[0]; p.Role != role || !p.Forwarding || !p.SendRSTP || pair[n].Root.Root != 0x8000<<48|5 {
			t.Errorf("bridge %d: %+v", n, p)
		}
	}
}
