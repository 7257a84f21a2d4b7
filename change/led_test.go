package change

import (
	"slices"
	"testing"

	"pontage/api"
	"pontage/pim"
	"pontage/prt"
	"pontage/roles"
	"pontage/rvar"
)

// lead leads the machines below, and these, till none has a step to take; which ports were flushed on the way.
func lead(t *testing.T, x api.Tree) (api.Tree, []int) {
	t.Helper()
	var flushed []int
	for range 100 {
		moved := false
		take := func(next api.Tree, ok bool) { x, moved = next, moved || ok }
		take(roles.Step(x))
		for i := range x.P {
			take(pim.Step(x, i))
			take(prt.Step(x, i))
			p, ok := Pst(x.P[i])
			x = rvar.Copy(x)
			x.P[i], moved = p, moved || ok
			take(Tcm(x, i))
			if x.P[i].Flush {
				x.P[i].Flush, moved = false, true
				flushed = append(flushed, i)
			}
			if p := x.P[i]; p.Forwarding && !p.Learning {
				t.Fatalf("forwards ahead of learning: %+v", p)
			}
		}
		if !moved {
			slices.Sort(flushed)
			return x, slices.Compact(flushed)
		}
	}
	t.Fatalf("does not rest: %+v", x)
	return x, nil
}

// settled is a bridge of as many ports, all of which forward, and of which nobody tells of a change any more.
func settled(t *testing.T, ports int, rstp bool) api.Tree {
	t.Helper()
	x, e := rvar.New(api.RstpConf{ID: 0x8000<<48 | 5, T: usual, TxHold: 6, Costs: slices.Repeat([]uint32{10}, ports)})
	if e != api.OK {
		t.Fatal(e)
	}
	for i := range x.P {
		x.P[i].Up, x.P[i].SendRSTP = true, rstp
	}
	for range 90 {
		x, _ = lead(t, rvar.Tick(x))
	}
	for i := range x.P {
		p := &x.P[i]
		if p.Role != api.Designated || !p.Learning || !p.Forwarding || p.Tcm != api.TcmActive || p.TcWhile != 0 {
			t.Fatalf("port %d: %+v", i, *p)
		}
		p.NewInfo = false
	}
	return x
}

// calm holds that a bridge that rests has done all that came, but at quiet ports, which keep it till they learn; and that ports do what they may.
func calm(t *testing.T, x api.Tree) {
	t.Helper()
	for i, p := range x.P {
		if p.Tcm != api.TcmInactive && (p.GotTC || p.GotTCN || p.GotAck || p.TcProp) {
			t.Fatalf("port %d: %+v", i, p)
		}
		if p.Learning != p.Learn || p.Forwarding != (p.Learn && p.Forward) {
			t.Fatalf("port %d: %+v", i, p)
		}
	}
}

// With the layers below: ports that are up learn, then forward, and each that does is a change; till then nobody tells of one.
func TestAlone(t *testing.T) {
	x, _ := rvar.New(api.RstpConf{ID: 0x8000<<48 | 5, T: usual, TxHold: 6, Costs: []uint32{10, 10, 10}})
	for i := range x.P {
		x.P[i].Up, x.P[i].SendRSTP = i < 2, true
	}
	x, flushed := lead(t, x)
	if !slices.Equal(flushed, []int{0, 1, 2}) {
		t.Error("begins:", flushed)
	}
	for tick := 1; tick <= 30; tick++ {
		x, flushed = lead(t, rvar.Tick(x))
		calm(t, x)
		for i, p := range x.P[:2] {
			want := api.TcmInactive
			if tick >= 20 {
				want = api.TcmLearning
			}
			if tick >= 22 {
				want = api.TcmActive
			}
			left := uint8(max(0, 25-tick))
			if tick < 22 {
				left = 0
			}
			if p.Learning != (tick >= 20) || p.Forwarding != (tick >= 22) || p.Tcm != want || p.TcWhile != left {
				t.Fatalf("tick %d, port %d: %+v", tick, i, p)
			}
		}
		if p := x.P[2]; p.Tcm != api.TcmInactive || p.Learning || p.Forwarding || p.TcWhile != 0 {
			t.Fatalf("tick %d: down: %+v", tick, p)
		}
		if tick != 22 && len(flushed) > 0 {
			t.Fatalf("tick %d: flushed: %v", tick, flushed)
		}
	}
}

// With the layers below: what a neighbour tells goes to all other ports, once, and what was learned there is gone.
func TestChangeIsHeard(t *testing.T) {
	for _, rstp := range []bool{true, false} {
		for _, kind := range []api.MsgKind{api.RST, api.Config, api.TCN} {
			x := settled(t, 3, rstp)
			for i := range x.P {
				m := api.BPDU{Kind: kind, TC: true, Role: api.Root, V: x.P[i].Desig, T: x.P[i].DesigT}
				y, flushed := lead(t, pim.Hear(x, i, m))
				calm(t, y)
				if !slices.Equal(flushed, slices.DeleteFunc([]int{0, 1, 2}, func(k int) bool { return k == i })) {
					t.Fatalf("port %d: flushed %v", i, flushed)
				}
				long := map[bool]uint8{true: 3, false: 35}[rstp]
				for k, p := range y.P {
					want := long
					if k == i && kind != api.TCN {
						want = 0
					}
					if p.TcWhile != want || p.TcAck != (k == i) || p.NewInfo != (rstp && want > 0) || p.Tcm != api.TcmActive || !p.Forwarding {
						t.Fatalf("kind %d, port %d of %d: %+v", kind, k, i, p)
					}
				}
			}
		}
	}
}

// With the layers below: an answer ends the telling of a port, and of no other one.
func TestAckIsHeard(t *testing.T) {
	x := settled(t, 2, false)
	x.P[0].TcWhile, x.P[1].TcWhile = 30, 30
	better := api.BPDU{Kind: api.Config, Ack: true, V: api.Vector{Root: 3, Bridge: 3, Port: 0x8001}, T: usual}
	x, flushed := lead(t, pim.Hear(x, 0, better))
	calm(t, x)
	if x.P[0].Role != api.Root || x.P[0].TcWhile != 0 || x.P[1].TcWhile != 30 || len(flushed) > 0 {
		t.Errorf("%v, %+v", flushed, x.P)
	}
}

// With the layers below: a port that goes down does nothing at once, and is quiet; nobody tells of that.
func TestDown(t *testing.T) {
	x := settled(t, 3, true)
	x.P[1].TcWhile, x.P[1].TcAck = 2, true
	x, flushed := lead(t, rvar.Up(x, 1, false))
	calm(t, x)
	if p := x.P[1]; p.Learning || p.Forwarding || p.Tcm != api.TcmInactive || p.TcWhile != 0 || p.TcAck || !slices.Equal(flushed, []int{1}) {
		t.Errorf("%v, %+v", flushed, p)
	}
	for _, i := range []int{0, 2} {
		if p := x.P[i]; !p.Forwarding || p.TcWhile != 0 || p.Tcm != api.TcmActive {
			t.Errorf("port %d: %+v", i, p)
		}
	}
}
