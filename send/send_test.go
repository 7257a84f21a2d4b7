package send

import (
	"math"
	"math/rand"
	"slices"
	"testing"

	"pontage/api"
	"pontage/bpdu"
)

var (
	desig  = api.Vector{Root: 1, Cost: 2, Bridge: 3, Port: 4}
	desigT = api.Times{Age: 1, Max: 20, Hello: 2, Delay: 15}
)

// teller is a port that would send at once, of a role and a version; and changes to it. What must not be told of it is other than what must.
func teller(role api.Role, rstp bool, changes ...func(p *api.Port)) api.Port {
	p := api.Port{
		ID: 0x8002, Up: true, Selected: true, NewInfo: true, Hello: 1, Role: role, Wanted: api.Backup, SendRSTP: rstp, Ptx: api.PtxIdle,
		Desig: desig, DesigT: desigT,
		Pri: api.Vector{Root: 11, Cost: 12, Bridge: 13, Port: 14}, PriT: api.Times{Age: 2, Max: 21, Hello: 3, Delay: 16},
		Msg: api.BPDU{Kind: api.RST, Role: api.Root, V: api.Vector{Root: 21}},
	}
	for _, change := range changes {
		change(&p)
	}
	return p
}

// between is a port between two others, which have something else to tell.
func between(p api.Port) api.Tree {
	other := teller(api.Designated, !p.SendRSTP, func(q *api.Port) { q.Desig, q.TcWhile = api.Vector{Root: 31}, 7 })
	return api.Tree{
		ID: 41, TxHold: 6, T: api.Times{Max: 22, Hello: 4, Delay: 17}, Root: api.Vector{Root: 51}, RootT: api.Times{Max: 23, Hello: 5, Delay: 18},
		P: []api.Port{other, p, other},
	}
}

// P15.1: of RSTP each role, those that are none too, with all flags; nothing else of the port is told.
func TestMessageOfRSTP(t *testing.T) {
	told := map[api.Role]api.Role{api.Alternate: api.Alternate, api.Backup: api.Alternate, api.Root: api.Root, api.Designated: api.Designated}
	for _, role := range anyRole() {
		for bits := range 1 << 5 {
			for _, left := range []uint8{0, 1, 2, 128, 255} {
				p := teller(role, true)
				want := api.BPDU{Kind: api.RST, TC: left != 0, Role: told[role], V: desig, T: desigT}
				p.TcWhile = left
				set(bits, &p.Proposing, &p.Learning, &p.Forwarding, &p.Agree, &p.TcAck)
				set(bits, &want.Proposal, &want.Learning, &want.Forward, &want.Agreement)
				if got := Message(between(p), 1); got != want {
					t.Fatalf("role %d: %+v, not %+v", role, got, want)
				}
			}
		}
	}
}

// P15.1: what is like one of the flags is not told in its place.
func TestMessageOfNoOtherFlag(t *testing.T) {
	for _, rstp := range []bool{true, false} {
		for _, role := range anyRole() {
			p := teller(role, rstp)
			want := Message(between(p), 1)
			p.Proposed, p.Learn, p.Forward, p.Agreed = true, true, true, true
			p.GotTC, p.GotTCN, p.GotAck, p.TcProp = true, true, true, true
			p.Wanted, p.TxCount, p.FdWhile, p.RrWhile = api.Root, 9, 9, 9
			p.Up, p.Selected, p.Update, p.NewInfo, p.Ptx = false, false, true, false, api.NoState
			if got := Message(between(p), 1); got != want {
				t.Errorf("%+v, not %+v", got, want)
			}
		}
	}
}

// P15.1: of STP a Config of a Designated port, with its two flags alone; of any other a TCN, with nothing.
func TestMessageOfSTP(t *testing.T) {
	for _, role := range anyRole() {
		for bits := range 1 << 5 {
			for _, left := range []uint8{0, 1, 2, 128, 255} {
				p := teller(role, false)
				p.TcWhile = left
				set(bits, &p.TcAck, &p.Proposing, &p.Learning, &p.Forwarding, &p.Agree)
				want := api.BPDU{Kind: api.TCN}
				if role == api.Designated {
					want = api.BPDU{Kind: api.Config, TC: left != 0, Ack: bits&1 == 1, V: desig, T: desigT}
				}
				if got := Message(between(p), 1); got != want {
					t.Fatalf("role %d: %+v, not %+v", role, got, want)
				}
			}
		}
	}
}

// P15.1: trees by chance, at all places; what is handed in stays.
func TestMessage(t *testing.T) {
	for _, x := range trees(1) {
		kept := x
		kept.P = slices.Clone(x.P)
		for i, p := range x.P {
			if got := Message(x, i); got != sayOf(p) {
				t.Fatalf("%+v of %+v", got, p)
			}
		}
		same(t, "handed in", x, kept)
	}
}

// P15.1, P15.2, P15.3: of a place that there is not: all zero; the tree as it was, and nothing.
func TestNoSuchPort(t *testing.T) {
	for _, x := range trees(2) {
		for _, i := range []int{math.MinInt, -1 << 32, -1, len(x.P), len(x.P) + 1, 1 << 32, math.MaxInt} {
			if m := Message(x, i); m != (api.BPDU{}) {
				t.Fatalf("port %d of %d: %+v", i, len(x.P), m)
			}
			y, out, ok := Ptx(x, i)
			if same(t, "Ptx", y, x); ok || len(out) > 0 {
				t.Fatalf("port %d of %d: a step, %+v", i, len(x.P), out)
			}
			y, ok = Ppm(x, i)
			if same(t, "Ppm", y, x); ok {
				t.Fatalf("port %d of %d: a step", i, len(x.P))
			}
		}
	}
}

// P15.2: trees by chance, at all places; each rule is met.
func TestPtx(t *testing.T) {
	seen := map[string]int{}
	for seed := range int64(3) {
		for _, x := range trees(10 + seed) {
			for i := range x.P {
				seen[holdPtx(t, x, i)]++
			}
		}
	}
	met(t, ptxNames, seen, 20)
}

// P15.2: each state and role with all flags, so that which of the rules comes first is met in all ways.
func TestPtxAllFlags(t *testing.T) {
	r := rand.New(rand.NewSource(13))
	seen := map[string]int{}
	for _, state := range append([]api.State{api.PtxIdle}, wrongPtx...) {
		for _, role := range anyRole() {
			for bits := range 1 << 9 {
				p := anyPort(r)
				var waiting, running, full bool
				set(bits, &p.Selected, &p.Update, &p.Up, &p.NewInfo, &p.SendRSTP, &p.TcAck, &waiting, &running, &full)
				p.Ptx, p.Role, p.Hello, p.TcWhile, p.TxCount = state, role, 0, 0, 2
				if waiting {
					p.Hello = 3
				}
				if running {
					p.TcWhile = 4
				}
				x := between(p)
				x.TxHold = 3
				if full {
					x.TxHold = 2
				}
				seen[holdPtx(t, x, 1)]++
			}
		}
	}
	met(t, ptxNames, seen, 1)
}

// step is what one step of transmission, which must be there to take, makes of a port, and what went out; nothing else changed.
func step(t *testing.T, p api.Port) (api.Port, []api.Out) {
	t.Helper()
	y, out, ok := Ptx(between(p), 1)
	if !ok {
		t.Fatalf("no step: %+v", p)
	}
	same(t, "beside the port", y, func() api.Tree { x := between(p); x.P[1] = y.P[1]; return x }())
	return y.P[1], out
}

// stays holds that there is no step for a port.
func stays(t *testing.T, what string, p api.Port) {
	t.Helper()
	x := between(p)
	y, out, ok := Ptx(x, 1)
	if ok || len(out) > 0 {
		t.Errorf("%s: %v, %+v", what, ok, out)
	}
	same(t, what, y, x)
}

// P15.2: what is no state begins, whatever else the port is, be it not Selected, or to be updated; nothing goes out.
func TestBegins(t *testing.T) {
	r := rand.New(rand.NewSource(14))
	for _, state := range wrongPtx {
		for range 300 {
			p := anyPort(r)
			p.Ptx = state
			want := p
			want.NewInfo, want.TxCount, want.Ptx, want.Hello = true, 0, api.PtxIdle, max(1, p.DesigT.Hello)
			got, out := step(t, p)
			if got != want || len(out) > 0 {
				t.Fatalf("%+v, %+v", got, out)
			}
		}
	}
}

// P15.2: it waits, in each of the three rules, for all hellos; DesigT's own stays, and no other times count.
func TestWaits(t *testing.T) {
	for hello := range 256 {
		want := uint8(hello)
		if hello == 0 {
			want = 1
		}
		for name, change := range map[string]func(p *api.Port){
			"begins": func(p *api.Port) { p.Ptx = api.NoState },
			"hello":  func(p *api.Port) { p.Hello = 0 },
			"sends":  func(p *api.Port) { p.Hello = 9 },
		} {
			p := teller(api.Designated, true, change, func(p *api.Port) { p.DesigT.Hello = uint8(hello) })
			got, out := step(t, p)
			if got.Hello != want || got.DesigT != p.DesigT || len(out) > 0 != (name == "sends") {
				t.Errorf("%s, hello %d: %d, %+v", name, hello, got.Hello, got.DesigT)
			}
		}
	}
}

// P15.2: behind its beginning a port that is not Selected, or is to be updated, does nothing.
func TestHeld(t *testing.T) {
	for _, role := range anyRole() {
		for bits := range 1 << 4 {
			var rstp, hello bool
			p := teller(role, false)
			set(bits, &p.Selected, &p.Update, &rstp, &hello)
			p.SendRSTP = rstp
			if hello {
				p.Hello = 0
			}
			if p.Selected && !p.Update {
				continue
			}
			stays(t, "held", p)
		}
	}
}

// P15.2: at the end of its wait a port has news, if it had, or is Designated, or is Root and tells of a change; nothing goes out, be it Up or not, and however many did.
func TestHello(t *testing.T) {
	for _, role := range anyRole() {
		for bits := range 1 << 4 {
			for _, left := range []uint8{0, 1, 255} {
				for _, count := range []uint8{0, 6, 255} {
					p := teller(role, false)
					set(bits, &p.SendRSTP, &p.Up, &p.NewInfo, &p.TcAck)
					p.Hello, p.TcWhile, p.TxCount = 0, left, count
					want := p
					want.Hello = 2
					switch role {
					case api.Designated:
						want.NewInfo = true
					case api.Root:
						want.NewInfo = p.NewInfo || left > 0
					}
					got, out := step(t, p)
					if got != want || len(out) > 0 {
						t.Fatalf("role %d: %+v, %+v", role, got, out)
					}
				}
			}
		}
	}
}

// P15.2: the message goes out: all counts and holds; what makes it stay.
func TestSends(t *testing.T) {
	for count := range 256 {
		for hold := range 256 {
			x := between(teller(api.Designated, true, func(p *api.Port) { p.TxCount = uint8(count) }))
			x.TxHold = uint8(hold)
			y, out, ok := Ptx(x, 1)
			want := x
			want.P = slices.Clone(x.P)
			if count < hold {
				want.P[1].TxCount, want.P[1].NewInfo, want.P[1].Hello = uint8(count+1), false, 2
			}
			same(t, "sends", y, want)
			if ok != (count < hold) || len(out) > 0 != ok {
				t.Fatalf("%d of %d: %v, %+v", count, hold, ok, out)
			}
		}
	}
	for _, rstp := range []bool{true, false} {
		stays(t, "down", teller(api.Designated, rstp, func(p *api.Port) { p.Up = false }))
		stays(t, "nothing new", teller(api.Designated, rstp, func(p *api.Port) { p.NewInfo, p.TcAck, p.TcWhile = false, true, 9 }))
	}
}

// P15.2, the document's example among them: who sends, of both versions, and what; whom it was to answer is answered by all but a TCN.
func TestWhoSends(t *testing.T) {
	for _, role := range anyRole() {
		for _, ack := range []bool{true, false} {
			p := teller(role, true, func(p *api.Port) { p.TcAck = ack })
			want := p
			want.NewInfo, want.TxCount, want.TcAck, want.Hello = false, 1, false, 2
			got, out := step(t, p)
			if got != want || !slices.Equal(out, []api.Out{{Port: 1, M: sayOf(p)}}) || out[0].M.Kind != api.RST {
				t.Errorf("RSTP, role %d: %+v, %+v", role, got, out)
			}
			p.SendRSTP, want.SendRSTP = false, false
			kind := api.Config
			switch role {
			case api.Root:
				kind, want.TcAck = api.TCN, ack
			case api.Designated:
			default:
				stays(t, "STP has no message of it", p)
				continue
			}
			got, out = step(t, p)
			if got != want || !slices.Equal(out, []api.Out{{Port: 1, M: sayOf(p)}}) || out[0].M.Kind != kind {
				t.Errorf("STP, role %d: %+v, %+v", role, got, out)
			}
		}
	}
}

// P15.2: what goes out is Message, of the tree as it was.
func TestSendsMessage(t *testing.T) {
	sent := map[api.MsgKind]int{}
	for _, x := range trees(15) {
		for i := range x.P {
			if _, out, _ := Ptx(x, i); len(out) > 0 {
				sent[out[0].M.Kind]++
				if !slices.Equal(out, []api.Out{{Port: i, M: Message(x, i)}}) {
					t.Fatalf("%+v of port %d, %+v", out, i, x.P[i])
				}
			}
		}
	}
	if sent[api.RST] < 50 || sent[api.Config] < 20 || sent[api.TCN] < 20 {
		t.Error(sent)
	}
}

// P15.3: trees by chance, at all places; each rule is met.
func TestPpm(t *testing.T) {
	seen := map[string]int{}
	for seed := range int64(3) {
		for _, x := range trees(20 + seed) {
			for i := range x.P {
				seen[holdPpm(t, x, i)]++
			}
		}
	}
	met(t, ppmNames, seen, 20)
}

// P15.3: each state, all that the machine asks for, and all that its timer may be.
func TestPpmAllFlags(t *testing.T) {
	r := rand.New(rand.NewSource(23))
	seen := map[string]int{}
	for _, state := range append(slices.Clone(versions), wrongPpm...) {
		for bits := range 1 << 4 {
			for left := range 256 {
				p := anyPort(r)
				p.Ppm, p.Migrate = state, uint8(left)
				set(bits, &p.Up, &p.SendRSTP, &p.GotRSTP, &p.GotSTP)
				seen[holdPpm(t, between(p), 1)]++
			}
		}
	}
	met(t, ppmNames, seen, 1)
}

// P15.3: from state to state by hand: which of them, which version, and for how long.
func TestTurns(t *testing.T) {
	const up, rstp, gotRSTP, gotSTP = 1, 2, 4, 8
	for _, c := range []struct {
		what    string
		state   api.State
		bits    int
		migrate uint8
		steps   bool
		next    api.State
		then    int
		left    uint8
	}{
		{"begins", api.NoState, up | gotRSTP | gotSTP, 0, true, api.PpmChecking, up | rstp | gotRSTP | gotSTP, 3},
		{"begins, down", 4, 0, 7, true, api.PpmChecking, rstp, 3},
		{"checking", api.PpmChecking, up | rstp | gotSTP, 1, false, api.PpmChecking, up | rstp | gotSTP, 1},
		{"checking, at the beginning", api.PpmChecking, up | rstp, 3, false, api.PpmChecking, up | rstp, 3},
		{"checked", api.PpmChecking, up | rstp | gotSTP | gotRSTP, 0, true, api.PpmSensing, up | rstp, 0},
		{"checking, down", api.PpmChecking, rstp, 3, false, api.PpmChecking, rstp, 3},
		{"checking, goes down", api.PpmChecking, rstp | gotSTP, 2, true, api.PpmChecking, rstp | gotSTP, 3},
		{"checked, goes down", api.PpmChecking, rstp | gotSTP, 0, true, api.PpmChecking, rstp | gotSTP, 3},
		{"sensing RSTP", api.PpmSensing, up | rstp | gotRSTP, 0, false, api.PpmSensing, up | rstp | gotRSTP, 0},
		{"sensing STP", api.PpmSensing, up | gotSTP, 0, false, api.PpmSensing, up | gotSTP, 0},
		{"from RSTP to STP", api.PpmSensing, up | rstp | gotSTP, 0, true, api.PpmSelecting, up | gotSTP, 3},
		{"from RSTP to STP, though both came", api.PpmSensing, up | rstp | gotSTP | gotRSTP, 0, true, api.PpmSelecting, up | gotSTP | gotRSTP, 3},
		{"from STP to RSTP", api.PpmSensing, up | gotRSTP, 0, true, api.PpmChecking, up | rstp | gotRSTP, 3},
		{"from STP to RSTP, though both came", api.PpmSensing, up | gotRSTP | gotSTP, 0, true, api.PpmChecking, up | rstp | gotRSTP | gotSTP, 3},
		{"sensing, goes down", api.PpmSensing, 0, 0, true, api.PpmChecking, rstp, 3},
		{"sensing RSTP, goes down", api.PpmSensing, rstp | gotSTP, 0, true, api.PpmChecking, rstp | gotSTP, 3},
		{"selecting", api.PpmSelecting, up | gotRSTP, 1, false, api.PpmSelecting, up | gotRSTP, 1},
		{"selected", api.PpmSelecting, up | gotRSTP | gotSTP, 0, true, api.PpmSensing, up, 0},
		{"selecting, goes down", api.PpmSelecting, gotRSTP | gotSTP, 2, true, api.PpmSensing, 0, 2},
	} {
		p := teller(api.Designated, false)
		p.Ppm, p.Migrate = c.state, c.migrate
		set(c.bits, &p.Up, &p.SendRSTP, &p.GotRSTP, &p.GotSTP)
		want := between(p)
		q := &want.P[1]
		q.Ppm, q.Migrate = c.next, c.left
		set(c.then, &q.Up, &q.SendRSTP, &q.GotRSTP, &q.GotSTP)
		got, ok := Ppm(between(p), 1)
		if same(t, c.what, got, want); ok != c.steps {
			t.Errorf("%s: told %v", c.what, ok)
		}
	}
}

// P15.3: the machine comes to rest behind three steps, whatever the port is.
func TestPpmRests(t *testing.T) {
	for _, x := range trees(24) {
		for i := range x.P {
			y, steps := x, 0
			for next, ok := Ppm(y, i); ok; next, ok = Ppm(y, i) {
				if steps++; steps > 3 {
					t.Fatalf("does not rest: %+v", x.P[i])
				}
				y = next
			}
		}
	}
}

// P15.4: what goes out may be, one at most a step, from whatever tree; so may what would go out. It is heard as it was said.
func TestMayBe(t *testing.T) {
	src := api.MAC{2, 0, 0, 0, 0, 1}
	for _, x := range trees(25) {
		for i := range x.P {
			if m := Message(x, i); bpdu.Check(m) != api.OK {
				t.Fatalf("%+v of %+v", m, x.P[i])
			}
			_, out, ok := Ptx(x, i)
			if len(out) > 1 || len(out) > 0 && !ok {
				t.Fatalf("%v, %+v", ok, out)
			}
			for _, o := range out {
				b, e := bpdu.Encode(src, o.M)
				if e != api.OK {
					t.Fatalf("%+v: %d", o.M, e)
				}
				if _, m, e := bpdu.Decode(b); e != api.OK || m != o.M {
					t.Fatalf("%+v, heard as %+v, %d", o.M, m, e)
				}
			}
		}
	}
}

// P15.5: all holds; a port that has news again behind each step, the end of its wait now and then, another version or role; begun or not.
func TestHold(t *testing.T) {
	r := rand.New(rand.NewSource(26))
	for hold := range 256 {
		for _, state := range []api.State{api.NoState, api.PtxIdle} {
			x := between(teller(api.Designated, true, func(p *api.Port) { p.Ptx = state }))
			x.TxHold = uint8(hold)
			sent := 0
			for range 4*hold + 20 {
				var out []api.Out
				x, out, _ = Ptx(x, 1)
				sent += len(out)
				p := &x.P[1]
				p.NewInfo = true
				p.SendRSTP, p.Role = r.Intn(2) == 0, one(r, []api.Role{api.Root, api.Designated})
				if r.Intn(5) == 0 {
					p.Hello = 0
				}
			}
			if sent != hold {
				t.Errorf("%d of %d went out", sent, hold)
			}
		}
	}
}

// P15.5: ports by chance, which began, from a count of 0 on: all that steps alone let go out.
func TestHoldByChance(t *testing.T) {
	r := rand.New(rand.NewSource(27))
	for _, x := range trees(28) {
		for i := range x.P {
			y := x
			y.P = slices.Clone(x.P)
			y.P[i].TxCount = 0
			y.TxHold = uint8(r.Intn(5))
			sent := 0
			for range 20 {
				next, out, _ := Ptx(y, i)
				sent += len(out)
				next.P = slices.Clone(next.P)
				next.P[i].NewInfo = r.Intn(3) > 0
				y = next
			}
			if sent > int(y.TxHold) {
				t.Fatalf("%d of %d went out: %+v", sent, y.TxHold, x.P[i])
			}
		}
	}
}

// spoil changes all ports, and what stands behind them in memory.
func spoil(x api.Tree) {
	for i := range x.P {
		x.P[i] = api.Port{ID: 0xdead}
	}
	_ = append(x.P, api.Port{ID: 0xbeef})
}

// What is handed in stays, be there room behind its ports; what is told, where it changed, is one's own.
func TestOwnMemory(t *testing.T) {
	for name, call := range map[string]func(x api.Tree, i int) api.Tree{
		"Ptx": func(x api.Tree, i int) api.Tree { y, _, _ := Ptx(x, i); return y },
		"Ppm": func(x api.Tree, i int) api.Tree { y, _ := Ppm(x, i); return y },
	} {
		for _, x := range trees(29) {
			for i := range x.P {
				room := append(slices.Clone(x.P), api.Port{ID: 0x1234})
				kept := slices.Clone(room)
				handed := x
				handed.P = room[:len(x.P)]
				first, second := call(handed, i), call(handed, i)
				if !slices.Equal(room, kept) {
					t.Fatal(name + ": what was handed in has changed")
				}
				if alike(first, x) {
					continue
				}
				want := second
				want.P = slices.Clone(second.P)
				spoil(first)
				if !slices.Equal(room, kept) {
					t.Fatal(name + ": what was handed in is shared")
				}
				spoil(handed)
				same(t, name+" shares memory", second, want)
			}
		}
	}
}

// The same is answered to the same, and two answers share nothing.
func TestNothingKept(t *testing.T) {
	for _, x := range trees(30) {
		for i := range x.P {
			first, out, ok := Ptx(x, i)
			kept := slices.Clone(out)
			Ptx(api.Tree{TxHold: 9, P: []api.Port{teller(api.Root, false), teller(api.Designated, true)}}, 1)
			again, more, too := Ptx(x, i)
			if same(t, "again", again, first); ok != too || !slices.Equal(out, more) {
				t.Fatal("told otherwise")
			}
			for k := range more {
				more[k].Port = -1
			}
			if !slices.Equal(out, kept) {
				t.Fatal("answers share memory")
			}
		}
	}
}
