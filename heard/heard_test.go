package heard

import (
	"math/rand"
	"reflect"
	"testing"

	"pontage/api"
	"pontage/vector"
)

// kinds and roles are all that there are, and some that there are not.
var (
	kinds = []api.MsgKind{-1 << 63, -1, api.NoMsg, api.Config, api.TCN, api.RST, 4, 1<<63 - 1}
	roles = []api.Role{-1 << 63, -1, api.Disabled, api.Alternate, api.Backup, api.Root, api.Designated, 5, 1<<63 - 1}
	iss   = []api.InfoIs{-1 << 63, -1, api.InfoDisabled, api.InfoAged, api.InfoMine, api.InfoReceived, 4, 1<<63 - 1}
)

var calls = map[string]func(api.Port) api.Port{
	"Proposal": Proposal, "Agreement": Agreement, "Dispute": Dispute,
	"Flags": Flags, "Priority": Priority, "Times": Times, "While": While,
}

// fill gives each part of what may be set a value by chance, small ones mostly, so that they meet.
func fill(r *rand.Rand, v reflect.Value) {
	switch v.Kind() {
	case reflect.Struct:
		for i := range v.NumField() {
			fill(r, v.Field(i))
		}
	case reflect.Bool:
		v.SetBool(r.Intn(2) == 0)
	case reflect.Int:
		v.SetInt(int64(r.Intn(7) - 1))
	default:
		n := uint64(r.Intn(3))
		if r.Intn(3) == 0 {
			n = r.Uint64() >> (64 - v.Type().Bits())
		}
		v.SetUint(n)
	}
}

func anyPort(r *rand.Rand) api.Port {
	var p api.Port
	fill(r, reflect.ValueOf(&p).Elem())
	if r.Intn(2) == 0 {
		p.Msg.V = p.Pri
	}
	if r.Intn(2) == 0 {
		p.Msg.T = p.PriT
	}
	if r.Intn(4) == 0 {
		p.Desig = p.Pri
	}
	return p
}

func anyMessage(r *rand.Rand) api.BPDU {
	var m api.BPDU
	fill(r, reflect.ValueOf(&m).Elem())
	return m
}

// fields are a port's that differ from how it was.
type fields map[string]any

// with is a port with other values in these fields, and no other.
func with(p api.Port, f fields) api.Port {
	for name, value := range f {
		reflect.ValueOf(&p).Elem().FieldByName(name).Set(reflect.ValueOf(value))
	}
	return p
}

func same(t *testing.T, what string, got, want api.Port) {
	t.Helper()
	if got == want {
		return
	}
	for i := range reflect.TypeFor[api.Port]().NumField() {
		g, w := reflect.ValueOf(got).Field(i).Interface(), reflect.ValueOf(want).Field(i).Interface()
		if g != w {
			t.Errorf("%s: %s is %v, not %v (of %+v)", what, reflect.TypeFor[api.Port]().Field(i).Name, g, w, want.Msg)
		}
	}
}

// each calls try with ports by chance whose message has each kind, role, and one flag or all others.
func each(try func(p api.Port)) {
	r := rand.New(rand.NewSource(10))
	for _, kind := range kinds {
		for _, role := range roles {
			for flags := range 64 {
				p := anyPort(r)
				m := &p.Msg
				m.Kind, m.Role = kind, role
				for i, flag := range []*bool{&m.TC, &m.Ack, &m.Proposal, &m.Learning, &m.Forward, &m.Agreement} {
					*flag = flags>>i&1 == 1
				}
				try(p)
			}
		}
	}
}

// P10.1: of each kind, at a port that is up, or not; of all else nothing changes.
func TestTake(t *testing.T) {
	r := rand.New(rand.NewSource(1))
	got := map[api.MsgKind]fields{
		api.RST:    {"GotMsg": true, "GotRSTP": true},
		api.Config: {"GotMsg": true, "GotSTP": true},
		api.TCN:    {"GotMsg": true, "GotSTP": true},
	}
	for _, kind := range kinds {
		for range 200 {
			p, m := anyPort(r), anyMessage(r)
			m.Kind = kind
			p.Up = false
			same(t, "down", Take(p, m), p)
			p.Up = true
			want := p
			if f := got[kind]; f != nil {
				want = with(with(p, f), fields{"Msg": m})
			}
			same(t, "up", Take(p, m), want)
		}
	}
}

// P10.1: a message takes the place of the one ahead of it, and of both it is known which version came.
func TestTakeTwice(t *testing.T) {
	one := api.BPDU{Kind: api.RST, Role: api.Designated, TC: true, V: api.Vector{Root: 1}}
	other := api.BPDU{Kind: api.Config}
	p := Take(Take(api.Port{Up: true}, one), other)
	same(t, "both", p, api.Port{Up: true, Msg: other, GotMsg: true, GotRSTP: true, GotSTP: true})
	same(t, "none", Take(p, api.BPDU{V: api.Vector{Root: 1}}), p)
}

// P10.2: the document's example.
func TestInfoExample(t *testing.T) {
	p := api.Port{Pri: api.Vector{Root: 5, Bridge: 5, Port: 1}}
	p.Msg = api.BPDU{Kind: api.RST, Role: api.Designated}
	for _, c := range []struct {
		id   uint64
		want api.Info
	}{{4, api.SuperiorInfo}, {6, api.InferiorInfo}, {5, api.RepeatedInfo}} {
		p.Msg.V = api.Vector{Root: c.id, Bridge: c.id, Port: 1}
		if got := Info(p); got != c.want {
			t.Error(c.id, got)
		}
	}
}

// P10.2: each part of the vector and the times, one less and one more, in a message of each kind and role.
func TestInfoParts(t *testing.T) {
	pri := api.Vector{Root: 5, Cost: 5, Bridge: 0x8000000000000005, Port: 0x8005}
	times := api.Times{Age: 5, Max: 20, Hello: 2, Delay: 15}
	for _, c := range []struct {
		name       string
		change     func(m *api.BPDU)
		designated api.Info // what a designated message is
		other      api.Info // what one of another port's role is
	}{
		{"same", func(m *api.BPDU) {}, api.RepeatedInfo, api.NotDesignated},
		{"better root", func(m *api.BPDU) { m.V.Root-- }, api.SuperiorInfo, api.OtherInfo},
		{"worse root, same port", func(m *api.BPDU) { m.V.Root++ }, api.SuperiorInfo, api.NotDesignated},
		{"better cost", func(m *api.BPDU) { m.V.Cost-- }, api.SuperiorInfo, api.OtherInfo},
		{"worse cost, same port", func(m *api.BPDU) { m.V.Cost++ }, api.SuperiorInfo, api.NotDesignated},
		{"better bridge", func(m *api.BPDU) { m.V.Bridge-- }, api.SuperiorInfo, api.OtherInfo},
		{"worse bridge", func(m *api.BPDU) { m.V.Bridge++ }, api.InferiorInfo, api.NotDesignated},
		{"worse priority of the bridge", func(m *api.BPDU) { m.V.Bridge += 1 << 48 }, api.SuperiorInfo, api.NotDesignated},
		{"better port", func(m *api.BPDU) { m.V.Port-- }, api.SuperiorInfo, api.OtherInfo},
		{"worse port", func(m *api.BPDU) { m.V.Port++ }, api.InferiorInfo, api.NotDesignated},
		{"worse priority of the port", func(m *api.BPDU) { m.V.Port += 1 << 12 }, api.SuperiorInfo, api.NotDesignated},
		{"worse root, other bridge", func(m *api.BPDU) { m.V.Root, m.V.Bridge = 6, 1 }, api.InferiorInfo, api.NotDesignated},
		{"worse root, other port", func(m *api.BPDU) { m.V.Root, m.V.Port = 6, 1 }, api.InferiorInfo, api.NotDesignated},
		{"age", func(m *api.BPDU) { m.T.Age++ }, api.SuperiorInfo, api.NotDesignated},
		{"greatest age", func(m *api.BPDU) { m.T.Max-- }, api.SuperiorInfo, api.NotDesignated},
		{"hello", func(m *api.BPDU) { m.T.Hello = 0 }, api.SuperiorInfo, api.NotDesignated},
		{"delay", func(m *api.BPDU) { m.T.Delay++ }, api.SuperiorInfo, api.NotDesignated},
		{"worse port, other times", func(m *api.BPDU) { m.V.Port++; m.T.Age-- }, api.InferiorInfo, api.NotDesignated},
	} {
		for _, kind := range kinds {
			for _, role := range roles {
				p := api.Port{Pri: pri, PriT: times, Msg: api.BPDU{Kind: kind, Role: role, V: pri, T: times}}
				c.change(&p.Msg)
				want := api.OtherInfo
				switch [2]int{int(kind), int(role)} {
				case [2]int{3, 4}:
					want = c.designated
				case [2]int{3, 3}, [2]int{3, 2}, [2]int{3, 1}:
					want = c.other
				default:
					if kind == api.Config {
						want = c.designated
					}
				}
				if got := Info(p); got != want {
					t.Errorf("%s, kind %d, role %d: %d, not %d", c.name, kind, role, got, want)
				}
			}
		}
	}
}

// isDesignated tells it again, for the tests.
func isDesignated(m api.BPDU) bool {
	return m.Kind == api.Config || m.Kind == api.RST && m.Role == api.Designated
}

// P10.2, P10.6: each of the five by its own words: just one of them is so, and of a designated message one of three; whatever else is in the port does not count.
func TestInfoOneOfFive(t *testing.T) {
	seen := map[api.Info]int{}
	each(func(p api.Port) {
		m := p.Msg
		alike := m.V == p.Pri && m.T == p.PriT
		is := map[api.Info]bool{
			api.SuperiorInfo:  isDesignated(m) && vector.Superior(m.V, p.Pri) && (m.V != p.Pri || m.T != p.PriT),
			api.RepeatedInfo:  isDesignated(m) && alike,
			api.InferiorInfo:  isDesignated(m) && !alike && !vector.Superior(m.V, p.Pri),
			api.NotDesignated: m.Kind == api.RST && m.Role >= api.Alternate && m.Role <= api.Root && vector.Compare(m.V, p.Pri) >= 0,
		}
		is[api.OtherInfo] = !is[1] && !is[2] && !is[3] && !is[4]
		got := Info(p)
		seen[got]++
		for info, so := range is {
			if so != (got == info) {
				t.Errorf("%+v to %v, %v: %d", m, p.Pri, p.PriT, got)
			}
		}
		if three := got >= api.SuperiorInfo && got <= api.InferiorInfo; three != isDesignated(m) {
			t.Errorf("%+v: %d, though designated: %v", m, got, isDesignated(m))
		}
		bare := api.Port{Msg: m, Pri: p.Pri, PriT: p.PriT}
		if Info(bare) != got {
			t.Errorf("%+v: what else the port has counts", m)
		}
	})
	for info := api.OtherInfo; info <= api.NotDesignated; info++ {
		if seen[info] < 20 {
			t.Errorf("%d was met %d times", info, seen[info])
		}
	}
}

// P10.3: all of whom the port's information may be, and of whom is asked, with what is better, the same and worse.
func TestBetterOrSame(t *testing.T) {
	vectors := []api.Vector{{Root: 4, Cost: 9, Bridge: 9, Port: 9}, {Root: 5, Bridge: 5, Port: 1}, {Root: 5, Bridge: 5, Port: 2}, {Root: 5, Bridge: 5, Port: 3}, {Root: 6}}
	for _, has := range iss {
		for _, asked := range iss {
			for pri := range vectors {
				for msg := range vectors {
					for desig := range vectors {
						p := api.Port{Is: has, Pri: vectors[pri], Desig: vectors[desig]}
						p.Msg.V = vectors[msg]
						want := has == asked && (has == api.InfoReceived && msg <= pri || has == api.InfoMine && desig <= pri)
						if BetterOrSame(p, asked) != want {
							t.Errorf("%d, asked %d; %d, heard %d, own %d: not %v", has, asked, pri, msg, desig, want)
						}
					}
				}
			}
		}
	}
}

// P10.4: each kind, role and flag; nothing else changes.
func TestProposal(t *testing.T) {
	each(func(p api.Port) {
		want := p
		if p.Msg.Kind == api.RST && p.Msg.Role == api.Designated && p.Msg.Proposal {
			want = with(p, fields{"Proposed": true})
		}
		same(t, "Proposal", Proposal(p), want)
	})
}

// P10.4: whatever its role; without it Agreed is taken back, and Proposing stays.
func TestAgreement(t *testing.T) {
	each(func(p api.Port) {
		want := fields{"Agreed": false}
		if p.Msg.Kind == api.RST && p.Msg.Agreement {
			want = fields{"Agreed": true, "Proposing": false}
		}
		same(t, "Agreement", Agreement(p), with(p, want))
	})
}

// P10.4: whatever its role; else Disputed and Agreed stay.
func TestDispute(t *testing.T) {
	each(func(p api.Port) {
		want := p
		if p.Msg.Kind == api.RST && p.Msg.Learning {
			want = with(p, fields{"Disputed": true, "Agreed": false})
		}
		same(t, "Dispute", Dispute(p), want)
	})
}

// P10.5: what was got ahead stays got.
func TestFlags(t *testing.T) {
	each(func(p api.Port) {
		want := p
		if m := p.Msg; m.TC && (m.Kind == api.RST || m.Kind == api.Config) {
			want = with(want, fields{"GotTC": true})
		}
		if p.Msg.Ack && p.Msg.Kind == api.Config {
			want = with(want, fields{"GotAck": true})
		}
		if p.Msg.Kind == api.TCN {
			want = with(want, fields{"GotTCN": true})
		}
		same(t, "Flags", Flags(p), want)
	})
}

// P10.5: of a message of any kind.
func TestPriority(t *testing.T) {
	each(func(p api.Port) {
		same(t, "Priority", Priority(p), with(p, fields{"Pri": p.Msg.V}))
	})
}

// P10.5: all hellos; the other times as they came.
func TestTimes(t *testing.T) {
	each(func(p api.Port) {
		for hello := range 256 {
			p.Msg.T.Hello = uint8(hello)
			want := p.Msg.T
			if hello == 0 {
				want.Hello = 1
			}
			same(t, "Times", Times(p), with(p, fields{"PriT": want}))
		}
	})
}

// P10.5: all ages and greatest ages, all hellos; the message's own times do not count.
func TestWhile(t *testing.T) {
	r := rand.New(rand.NewSource(5))
	p := anyPort(r)
	for age := range 256 {
		for most := range 256 {
			for _, hello := range []int{0, 1, 2, 84, 85, 86, 170, 171, 255, r.Intn(256)} {
				p.PriT.Age, p.PriT.Max, p.PriT.Hello = uint8(age), uint8(most), uint8(hello)
				want := 3 * hello
				switch {
				case most <= age:
					want = 0
				case hello > 85:
					want = 255
				}
				if got := While(p); got != with(p, fields{"InfoWhile": uint8(want)}) {
					t.Fatalf("age %d of %d, hello %d: %d, not %d", age, most, hello, got.InfoWhile, want)
				}
			}
		}
	}
	p.PriT.Age, p.PriT.Max = 19, 20
	for hello := range 256 {
		p.PriT.Hello = uint8(hello)
		if got := int(While(p).InfoWhile); got != min(3*hello, 255) {
			t.Errorf("hello %d: %d", hello, got)
		}
	}
}

// P10.7: a designated message whose Hello is not 0, in either order; with a Hello of 0 it is Superior again.
func TestRepeated(t *testing.T) {
	r := rand.New(rand.NewSource(7))
	for range 20000 {
		p, m := anyPort(r), anyMessage(r)
		p.Up = true
		m.Kind, m.Role = api.RST, api.Designated
		if r.Intn(2) == 0 {
			m.Kind, m.Role = api.Config, api.Role(r.Intn(6))
		}
		m.T.Hello = uint8(1 + r.Intn(255))
		q := Take(p, m)
		for _, known := range []api.Port{Times(Priority(q)), Priority(Times(q))} {
			if got := Info(Take(known, m)); got != api.RepeatedInfo {
				t.Fatalf("%+v: %d", m, got)
			}
		}
		m.T.Hello = 0
		if got := Info(Take(Times(Priority(Take(p, m))), m)); got != api.SuperiorInfo {
			t.Fatalf("%+v: %d", m, got)
		}
	}
}

// P10.8: behind Times, all ages and greatest ages, and all hellos at the edge.
func TestAges(t *testing.T) {
	p := api.Port{Up: true, InfoWhile: 77}
	for age := range 256 {
		for most := range 256 {
			for _, hello := range []uint8{0, 1, 2, 85, 86, 171, 255} {
				m := api.BPDU{Kind: api.Config, T: api.Times{Age: uint8(age), Max: uint8(most), Hello: hello}}
				if q := While(Times(Take(p, m))); (q.InfoWhile != 0) != (age < most) {
					t.Fatalf("%+v: %d", m.T, q.InfoWhile)
				}
			}
		}
	}
	for hello := range 256 {
		m := api.BPDU{Kind: api.RST, T: api.Times{Max: 1, Hello: uint8(hello)}}
		if While(Times(Take(p, m))).InfoWhile == 0 {
			t.Errorf("hello %d: not counted", hello)
		}
	}
}

// All of them hang on the port alone: the zero port, and the same answer twice.
func TestNothingKept(t *testing.T) {
	for name, call := range calls {
		want := api.Port{}
		if name == "Times" {
			want.PriT.Hello = 1
		}
		same(t, name, call(api.Port{}), want)
		each(func(p api.Port) {
			ahead := p
			first := call(p)
			same(t, name, p, ahead)
			same(t, name, call(p), first)
			same(t, name, call(first), first)
		})
	}
	if Info(api.Port{}) != api.OtherInfo || BetterOrSame(api.Port{}, 0) || Take(api.Port{}, api.BPDU{}) != (api.Port{}) {
		t.Error("the zero port")
	}
}
