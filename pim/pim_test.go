package pim

import (
	"math"
	"math/rand"
	"reflect"
	"slices"
	"testing"

	"pontage/api"
	"pontage/rvar"
	"pontage/vector"
)

// All that there are, and some that there are not.
var (
	kinds  = []api.MsgKind{math.MinInt, -1, api.NoMsg, api.Config, api.TCN, api.RST, 4, math.MaxInt}
	states = []api.State{math.MinInt, -1, api.NoState, api.PimDisabled, api.PimAged, api.PimCurrent, 4, math.MaxInt}
	iss    = []api.InfoIs{math.MinInt, -1, api.InfoDisabled, api.InfoAged, api.InfoMine, api.InfoReceived, 4, math.MaxInt}
)

// fill gives each part of a value something by chance, small numbers mostly, so that they meet.
func fill(r *rand.Rand, v reflect.Value) {
	switch v.Kind() {
	case reflect.Struct:
		for i := range v.NumField() {
			fill(r, v.Field(i))
		}
	case reflect.Bool:
		v.SetBool(r.Intn(2) == 0)
	case reflect.Int:
		v.SetInt(int64(r.Intn(7) - 1))
	case reflect.Uint8, reflect.Uint16, reflect.Uint32, reflect.Uint64:
		n := uint64(r.Intn(3))
		if r.Intn(3) == 0 {
			n = r.Uint64() >> (64 - v.Type().Bits())
		}
		v.SetUint(n)
	}
}

func anyMessage(r *rand.Rand) api.BPDU {
	var m api.BPDU
	fill(r, reflect.ValueOf(&m).Elem())
	return m
}

// anyPort is one by chance, often with a message that tells what it has, or what it would tell itself.
func anyPort(r *rand.Rand) api.Port {
	var p api.Port
	fill(r, reflect.ValueOf(&p).Elem())
	if r.Intn(2) == 0 {
		p.Msg.V = p.Pri
	}
	if r.Intn(2) == 0 {
		p.Msg.T = p.PriT
	}
	if r.Intn(4) == 0 {
		p.Desig = p.Pri
	}
	return p
}

// anyTree is one by chance, with that many ports: more than a bridge has, too.
func anyTree(r *rand.Rand, ports int) api.Tree {
	var x api.Tree
	fill(r, reflect.ValueOf(&x).Elem())
	for range ports {
		x.P = append(x.P, anyPort(r))
	}
	return x
}

// trees are some by chance, of none to ten ports, several of each.
func trees(seed int64) []api.Tree {
	r := rand.New(rand.NewSource(seed))
	list := []api.Tree{{}, {P: []api.Port{}}, {P: make([]api.Port, 3)}}
	for ports := range 11 {
		for range 60 {
			list = append(list, anyTree(r, ports))
		}
	}
	return list
}

// wrong are places at which there is no port.
func wrong(ports int) []int {
	return []int{math.MinInt, -1 << 32, -ports - 1, -1, ports, ports + 1, 1 << 32, math.MaxInt}
}

// fields are a port's that differ from how it was.
type fields map[string]any

// with is a port with other values in these fields, and no other.
func with(p api.Port, f fields) api.Port {
	for name, value := range f {
		reflect.ValueOf(&p).Elem().FieldByName(name).Set(reflect.ValueOf(value))
	}
	return p
}

// put is a tree with another port at that place, made without the package.
func put(x api.Tree, i int, p api.Port) api.Tree {
	x.P = slices.Clone(x.P)
	x.P[i] = p
	return x
}

func alike(a, b api.Tree) bool {
	if len(a.P) == 0 && len(b.P) == 0 {
		a.P, b.P = nil, nil
	}
	return reflect.DeepEqual(a, b)
}

// same holds that a tree's port, and all else of it, is what it should be.
func same(t *testing.T, what string, got, want api.Tree) {
	t.Helper()
	if alike(got, want) {
		return
	}
	if len(got.P) != len(want.P) {
		t.Fatalf("%s: %d ports, not %d", what, len(got.P), len(want.P))
	}
	for i := range want.P {
		for f := range reflect.TypeFor[api.Port]().NumField() {
			g, w := reflect.ValueOf(got.P[i]).Field(f).Interface(), reflect.ValueOf(want.P[i]).Field(f).Interface()
			if g != w {
				t.Errorf("%s: port %d: %s is %v, not %v", what, i, reflect.TypeFor[api.Port]().Field(f).Name, g, w)
			}
		}
	}
	t.Fatalf("%s: %+v, not %+v", what, got, want)
}

// P11.1: each kind, at ports that are up, or not, at all places; of all else, and of all other ports, nothing changes.
func TestHear(t *testing.T) {
	r := rand.New(rand.NewSource(1))
	for _, x := range trees(1) {
		for i, p := range x.P {
			for _, kind := range kinds {
				m := anyMessage(r)
				m.Kind = kind
				want := p
				switch {
				case !p.Up:
				case kind == api.RST:
					want = with(p, fields{"Msg": m, "GotMsg": true, "GotRSTP": true})
				case kind == api.Config || kind == api.TCN:
					want = with(p, fields{"Msg": m, "GotMsg": true, "GotSTP": true})
				}
				same(t, "Hear", Hear(x, i, m), put(x, i, want))
			}
		}
	}
}

// P11.1, P11.2: nobody hears, and nothing steps.
func TestNoSuchPort(t *testing.T) {
	for _, x := range trees(2) {
		for _, i := range wrong(len(x.P)) {
			same(t, "Hear", Hear(x, i, api.BPDU{Kind: api.RST}), x)
			got, ok := Step(x, i)
			if same(t, "Step", got, x); ok {
				t.Errorf("port %d of %d steps", i, len(x.P))
			}
		}
	}
}

// What becomes of a port, in the document's words.

func isDisabled(p api.Port) api.Port {
	return with(p, fields{
		"GotMsg": false, "Proposing": false, "Proposed": false, "Agree": false, "Agreed": false, "InfoWhile": uint8(0),
		"Is": api.InfoDisabled, "Reselect": true, "Selected": false, "Pim": api.PimDisabled,
	})
}

func isAged(p api.Port) api.Port {
	return with(p, fields{"Is": api.InfoAged, "Reselect": true, "Selected": false, "Pim": api.PimAged})
}

func isUpdated(p api.Port) api.Port {
	agreed := p.Agreed && p.Is == api.InfoMine && !vector.Better(p.Pri, p.Desig)
	return with(p, fields{
		"Proposing": false, "Proposed": false, "Agreed": agreed, "Synced": p.Synced && agreed,
		"Pri": p.Desig, "PriT": p.DesigT, "Update": false, "Is": api.InfoMine, "NewInfo": true, "Pim": api.PimCurrent,
	})
}

// proposes, agrees, tells and counts are the fields that a message sets of what it proposes, agrees to, tells of changes, and for how long it counts.
func proposes(p api.Port) fields {
	return fields{"Proposed": p.Proposed || p.Msg.Kind == api.RST && p.Msg.Role == api.Designated && p.Msg.Proposal}
}

func agrees(p api.Port) fields {
	yes := p.Msg.Kind == api.RST && p.Msg.Agreement
	return fields{"Agreed": yes, "Proposing": p.Proposing && !yes}
}

func tells(p api.Port) fields {
	config, rst, tcn := p.Msg.Kind == api.Config, p.Msg.Kind == api.RST, p.Msg.Kind == api.TCN
	return fields{"GotTC": p.GotTC || (rst || config) && p.Msg.TC, "GotAck": p.GotAck || config && p.Msg.Ack, "GotTCN": p.GotTCN || tcn}
}

func counts(times api.Times) fields {
	if times.Age >= times.Max {
		return fields{"InfoWhile": uint8(0)}
	}
	return fields{"InfoWhile": uint8(min(3*int(times.Hello), 255))}
}

func isSuperior(p api.Port) api.Port {
	agreed := p.Msg.Kind == api.RST && p.Msg.Agreement
	times := p.Msg.T
	times.Hello = max(times.Hello, 1)
	q := with(with(with(p, proposes(p)), tells(p)), counts(times))
	return with(q, fields{
		"Agreed": agreed, "Proposing": false, "Synced": p.Synced && agreed,
		"Agree": p.Agree && p.Is == api.InfoReceived && !vector.Better(p.Pri, p.Msg.V),
		"Pri":   p.Msg.V, "PriT": times, "Is": api.InfoReceived, "Reselect": true, "Selected": false,
	})
}

// infoOf is what a message is, told again for the tests.
func infoOf(p api.Port) api.Info {
	m := p.Msg
	designated := m.Kind == api.Config || m.Kind == api.RST && m.Role == api.Designated
	other := m.Kind == api.RST && m.Role >= api.Alternate && m.Role <= api.Root
	switch {
	case designated && m.V == p.Pri && m.T == p.PriT:
		return api.RepeatedInfo
	case designated && vector.Superior(m.V, p.Pri):
		return api.SuperiorInfo
	case designated:
		return api.InferiorInfo
	case other && !vector.Better(m.V, p.Pri):
		return api.NotDesignated
	}
	return api.OtherInfo
}

func hasReceived(p api.Port) api.Port {
	q := p
	switch infoOf(p) {
	case api.SuperiorInfo:
		q = isSuperior(p)
	case api.RepeatedInfo:
		q = with(with(with(with(p, proposes(p)), tells(p)), agrees(p)), counts(p.PriT))
	case api.InferiorInfo:
		if p.Msg.Kind == api.RST && p.Msg.Learning {
			q = with(p, fields{"Disputed": true, "Agreed": false})
		}
	case api.NotDesignated:
		q = with(with(p, agrees(p)), tells(p))
	case api.OtherInfo:
		if p.Msg.Kind == api.TCN {
			q = with(p, fields{"GotTCN": true})
		}
	}
	return with(q, fields{"GotMsg": false})
}

// stepOf is the first of the document's rules that is so for a port: its name, and what becomes of the port. "" is none.
func stepOf(p api.Port) (string, api.Port) {
	rules := []struct {
		name string
		so   bool
		then func(api.Port) api.Port
	}{
		{"begins", p.Pim != api.PimDisabled && p.Pim != api.PimAged && p.Pim != api.PimCurrent, isDisabled},
		{"goes down", !p.Up && p.Is != api.InfoDisabled, isDisabled},
		{"comes up", p.Pim == api.PimDisabled && p.Up, isAged},
		{"is down", p.Pim == api.PimDisabled && p.GotMsg, isDisabled},
		{"aged is updated", p.Pim == api.PimAged && p.Selected && p.Update, isUpdated},
		{"receives", p.Pim == api.PimCurrent && p.GotMsg && !p.Update, hasReceived},
		{"is updated", p.Pim == api.PimCurrent && p.Selected && p.Update, isUpdated},
		{"ages", p.Pim == api.PimCurrent && p.Is == api.InfoReceived && p.InfoWhile == 0 && !p.Update && !p.GotMsg, isAged},
	}
	for _, r := range rules {
		if r.so {
			return r.name, r.then(p)
		}
	}
	return "", p
}

// hold holds a step of a port, with neighbours about it, against the document's words: which rule it was.
func hold(t *testing.T, x api.Tree, i int) string {
	t.Helper()
	name, want := stepOf(x.P[i])
	got, ok := Step(x, i)
	same(t, name, got, put(x, i, want))
	if ok != (name != "") {
		t.Fatalf("%q: told %v of %+v", name, ok, x.P[i])
	}
	return name
}

// every calls try with ports by chance of each state, of whoever's information, with each of the flags that are asked.
func every(seed int64, try func(r *rand.Rand, p api.Port)) {
	r := rand.New(rand.NewSource(seed))
	for _, state := range states {
		for _, is := range iss {
			for flags := range 16 {
				for _, while := range []uint8{0, 1, 2, 255} {
					p := anyPort(r)
					p.Pim, p.Is, p.InfoWhile = state, is, while
					p.Up, p.GotMsg, p.Selected, p.Update = flags&1 == 0, flags&2 == 0, flags&4 == 0, flags&8 == 0
					try(r, p)
				}
			}
		}
	}
}

// P11.2: each of the rules, and which comes first; of all else nothing changes.
func TestStep(t *testing.T) {
	seen := map[string]int{}
	for seed := range int64(12) {
		every(seed, func(r *rand.Rand, p api.Port) {
			x := anyTree(r, 3)
			i := r.Intn(3)
			x.P[i] = p
			seen[hold(t, x, i)]++
		})
	}
	for _, name := range []string{"", "begins", "goes down", "comes up", "is down", "aged is updated", "receives", "is updated", "ages"} {
		if seen[name] < 20 {
			t.Errorf("%q was met %d times", name, seen[name])
		}
	}
}

// P11.2: trees by chance, at all places.
func TestStepAnywhere(t *testing.T) {
	for _, x := range trees(3) {
		for i := range x.P {
			hold(t, x, i)
		}
	}
}

// P11.2: updated, with each flag that it may take back, whoever's the information was, be one's own better, the same, or worse.
func TestUpdated(t *testing.T) {
	r := rand.New(rand.NewSource(4))
	vectors := []api.Vector{{Root: 4, Cost: 9, Bridge: 9, Port: 9}, {Root: 5, Bridge: 5, Port: 1}, {Root: 5, Bridge: 5, Port: 2}, {Root: 6}}
	for _, state := range []api.State{api.PimAged, api.PimCurrent} {
		for _, is := range iss {
			for pri := range vectors {
				for desig := range vectors {
					for flags := range 16 {
						p := anyPort(r)
						p.Pim, p.Is, p.Up, p.Selected, p.Update = state, is, true, true, true
						p.Pri, p.Desig = vectors[pri], vectors[desig]
						p.Agreed, p.Synced, p.Proposing, p.Proposed = flags&1 == 0, flags&2 == 0, flags&4 == 0, flags&8 == 0
						x, ok := Step(api.Tree{P: []api.Port{p}}, 0)
						agreed := p.Agreed && is == api.InfoMine && desig <= pri
						want := with(isUpdated(p), fields{"Agreed": agreed, "Synced": p.Synced && agreed})
						if same(t, "updated", x, api.Tree{P: []api.Port{want}}); !ok {
							t.Fatal("not updated")
						}
					}
				}
			}
		}
	}
}

// listening is a port by chance that receives the message it has.
func listening(r *rand.Rand) api.Port {
	p := anyPort(r)
	p.Pim, p.Up, p.GotMsg, p.Update = api.PimCurrent, true, true, false
	p.Is = iss[r.Intn(len(iss))]
	return p
}

// P11.2, P11.3: a message of each kind, role and all flags; each of the five is met often.
func TestReceives(t *testing.T) {
	r := rand.New(rand.NewSource(5))
	seen := map[api.Info]int{}
	for range 4 {
		for _, kind := range kinds {
			for role := api.Role(-1); role <= 5; role++ {
				for flags := range 64 {
					x := anyTree(r, 4)
					i := r.Intn(4)
					x.P[i] = listening(r)
					m := &x.P[i].Msg
					m.Kind, m.Role = kind, role
					for bit, flag := range []*bool{&m.TC, &m.Ack, &m.Proposal, &m.Learning, &m.Forward, &m.Agreement} {
						*flag = flags>>bit&1 == 1
					}
					seen[infoOf(x.P[i])]++
					if name := hold(t, x, i); name != "receives" {
						t.Fatalf("%q: %+v", name, x.P[i])
					}
				}
			}
		}
	}
	for info := api.OtherInfo; info <= api.NotDesignated; info++ {
		if seen[info] < 100 {
			t.Errorf("%d was met %d times", info, seen[info])
		}
	}
}

// current is a port at rest, by numbers: what others told it, or its own.
func current(is api.InfoIs) api.Port {
	pri := api.Vector{Root: 5, Cost: 1, Bridge: 5, Port: 0x8001}
	times := api.Times{Age: 1, Max: 20, Hello: 2, Delay: 15}
	return api.Port{
		ID: 0x8001, Cost: 10, Up: true, Selected: true, Pim: api.PimCurrent, Is: is, InfoWhile: 1,
		Agree: true, Agreed: true, Synced: true, Proposing: true, Pri: pri, PriT: times, Desig: pri, DesigT: times,
	}
}

// P11.2: messages by numbers, and all that each of them changes.
func TestMessages(t *testing.T) {
	has := current(api.InfoReceived)
	better, worse, sender := api.Vector{Root: 4, Bridge: 4, Port: 0x8003}, api.Vector{Root: 6, Bridge: 6, Port: 1}, api.Vector{Root: 9, Cost: 1, Bridge: 5, Port: 0x8001}
	old := api.Times{Age: 20, Max: 20, Hello: 2, Delay: 15}
	quick := api.Times{Max: 20, Delay: 15}
	taken := fields{"Is": api.InfoReceived, "Selected": false, "Reselect": true, "Proposing": false, "Agreed": false, "Synced": false, "InfoWhile": uint8(6)}
	for _, c := range []struct {
		name string
		is   api.InfoIs
		m    api.BPDU
		more fields // beside those of taken, where the message is superior
		rest fields // where it is not
	}{
		{"superior", api.InfoReceived, api.BPDU{Kind: api.RST, Role: api.Designated, V: better, T: has.PriT}, fields{"Pri": better}, nil},
		{"proposes", api.InfoReceived, api.BPDU{Kind: api.RST, Role: api.Designated, Proposal: true, V: better, T: has.PriT}, fields{"Pri": better, "Proposed": true}, nil},
		{"of one's own", api.InfoMine, api.BPDU{Kind: api.RST, Role: api.Designated, V: better, T: has.PriT}, fields{"Pri": better, "Agree": false}, nil},
		{"agrees", api.InfoReceived, api.BPDU{Kind: api.RST, Role: api.Designated, Agreement: true, V: better, T: has.PriT}, fields{"Pri": better, "Agreed": true, "Synced": true}, nil},
		{"worse of the sender", api.InfoReceived, api.BPDU{Kind: api.Config, TC: true, Ack: true, V: sender, T: has.PriT}, fields{"Pri": sender, "Agree": false, "GotTC": true, "GotAck": true}, nil},
		{"too old", api.InfoReceived, api.BPDU{Kind: api.RST, Role: api.Designated, V: has.Pri, T: old}, fields{"PriT": old, "InfoWhile": uint8(0)}, nil},
		{"hello of 0", api.InfoReceived, api.BPDU{Kind: api.RST, Role: api.Designated, V: has.Pri, T: quick}, fields{"PriT": api.Times{Max: 20, Hello: 1, Delay: 15}, "InfoWhile": uint8(3)}, nil},
		{"repeated", api.InfoReceived, api.BPDU{Kind: api.RST, Role: api.Designated, Proposal: true, TC: true, V: has.Pri, T: has.PriT}, nil, fields{"Proposed": true, "GotTC": true, "Agreed": false, "InfoWhile": uint8(6)}},
		{"repeated, agrees", api.InfoReceived, api.BPDU{Kind: api.RST, Role: api.Designated, Agreement: true, V: has.Pri, T: has.PriT}, nil, fields{"Proposing": false, "InfoWhile": uint8(6)}},
		{"inferior", api.InfoReceived, api.BPDU{Kind: api.RST, Role: api.Designated, TC: true, Proposal: true, Agreement: true, V: worse, T: has.PriT}, nil, fields{}},
		{"inferior, learns", api.InfoReceived, api.BPDU{Kind: api.RST, Role: api.Designated, Learning: true, V: worse, T: has.PriT}, nil, fields{"Disputed": true, "Agreed": false}},
		{"of a root port", api.InfoMine, api.BPDU{Kind: api.RST, Role: api.Root, Agreement: true, TC: true, V: worse}, nil, fields{"Proposing": false, "GotTC": true}},
		{"of an alternate port", api.InfoMine, api.BPDU{Kind: api.RST, Role: api.Alternate, V: has.Pri}, nil, fields{"Agreed": false}},
		{"of a root port that knows better", api.InfoMine, api.BPDU{Kind: api.RST, Role: api.Root, Agreement: true, TC: true, V: better}, nil, fields{}},
		{"of an unknown role", api.InfoMine, api.BPDU{Kind: api.RST, TC: true, Agreement: true, V: worse}, nil, fields{}},
		{"TCN", api.InfoMine, api.BPDU{Kind: api.TCN, TC: true, Ack: true, Role: api.Designated, V: better}, nil, fields{"GotTCN": true}},
	} {
		p := current(c.is)
		want := with(with(p, fields{"Msg": c.m, "GotRSTP": c.m.Kind == api.RST, "GotSTP": c.m.Kind != api.RST}), c.rest)
		if c.rest == nil {
			want = with(with(want, taken), c.more)
		}
		x, ok := Step(Hear(api.Tree{P: []api.Port{p}}, 0, c.m), 0)
		if same(t, c.name, x, api.Tree{P: []api.Port{want}}); !ok {
			t.Errorf("%s: no step", c.name)
		}
	}
}

// P11.2: what is to be updated comes ahead of what came; while roles are not yet selected, it waits.
func TestMessageWaits(t *testing.T) {
	p := current(api.InfoMine)
	p.Update, p.Selected = true, false
	x := Hear(api.Tree{P: []api.Port{p}}, 0, api.BPDU{Kind: api.RST, Role: api.Designated, T: p.PriT})
	if got, ok := Step(x, 0); ok || !alike(got, x) {
		t.Fatalf("%+v", got)
	}
	x.P[0].Selected = true
	x, ok := Step(x, 0)
	if !ok || !x.P[0].GotMsg || x.P[0].Update || x.P[0].Is != api.InfoMine {
		t.Fatalf("%+v", x)
	}
	x, ok = Step(x, 0)
	if !ok || x.P[0].GotMsg || x.P[0].Is != api.InfoReceived {
		t.Fatalf("%+v", x)
	}
}

// begin is a tree with ports that a bridge begins with.
func begin(t *testing.T, ports int) api.Tree {
	t.Helper()
	x, e := rvar.New(api.RstpConf{ID: 0x8000000000000005, T: api.Times{Max: 20, Hello: 2, Delay: 15}, TxHold: 6, Costs: slices.Repeat([]uint32{20000}, ports)})
	if e != api.OK {
		t.Fatal(e)
	}
	return x
}

// P11.2: the document's example.
func TestExample(t *testing.T) {
	x := begin(t, 2)
	first, ok := Step(x, 1)
	same(t, "as it begins", first, put(x, 1, with(x.P[1], fields{"Reselect": true, "Pim": api.PimDisabled})))
	if !ok {
		t.Error("no step")
	}
	if _, ok = Step(first, 1); ok {
		t.Error("disabled twice")
	}
	up := rvar.Up(first, 1, true)
	got, ok := Step(up, 1)
	same(t, "up", got, put(up, 1, with(up.P[1], fields{"Is": api.InfoAged, "Pim": api.PimAged})))
	if !ok {
		t.Error("no step")
	}
	if _, ok = Step(got, 1); ok {
		t.Error("aged twice")
	}
}

// P11.3: what is heard is received once, with nothing more to do for it; no other port changes.
func TestHeardOnce(t *testing.T) {
	r := rand.New(rand.NewSource(6))
	for range 5000 {
		x := anyTree(r, 1+r.Intn(8))
		i := r.Intn(len(x.P))
		x.P[i] = listening(r)
		x.P[i].GotMsg = false
		m := anyMessage(r)
		m.Kind = kinds[3+r.Intn(3)]
		got, ok := Step(Hear(x, i, m), i)
		if !ok || got.P[i].GotMsg || got.P[i].Msg != m {
			t.Fatalf("%v: %+v", ok, got.P[i])
		}
		for at := range x.P {
			if at != i && got.P[at] != x.P[at] {
				t.Fatalf("port %d heard, and %d changed", i, at)
			}
		}
		if name, _ := stepOf(got.P[i]); name != "" && name != "ages" {
			t.Fatalf("then it %s", name)
		}
	}
}

// agesBehind is how many ticks a port lives of what it was told.
func agesBehind(t *testing.T, x api.Tree, i int) int {
	t.Helper()
	for ticks := range 300 {
		got, ok := Step(x, i)
		if ok {
			same(t, "ages", got, put(x, i, isAged(x.P[i])))
			return ticks
		}
		x = rvar.Tick(got)
	}
	t.Fatal("never ages")
	return 0
}

// P11.4: all that InfoWhile may be; that of another port does not count.
func TestAges(t *testing.T) {
	for while := range 256 {
		other := current(api.InfoReceived)
		other.InfoWhile = 17
		p := current(api.InfoReceived)
		p.InfoWhile = uint8(while)
		if got := agesBehind(t, api.Tree{P: []api.Port{other, p}}, 1); got != while {
			t.Errorf("InfoWhile %d: %d ticks", while, got)
		}
	}
}

// P11.4: of a message, all hellos, and ages that count no more; heard again it lives on, and only of the sender's own words.
func TestAgesHeard(t *testing.T) {
	for hello := range 256 {
		for _, age := range []uint8{0, 18, 19, 20, 21, 255} {
			m := api.BPDU{Kind: api.RST, Role: api.Designated, V: api.Vector{Root: 1, Bridge: 1, Port: 0x8001}, T: api.Times{Age: age, Max: 20, Hello: uint8(hello), Delay: 15}}
			want := min(3*max(hello, 1), 255)
			if age >= 20 {
				want = 0
			}
			x, _ := Step(Hear(api.Tree{P: []api.Port{current(api.InfoMine)}}, 0, m), 0)
			if got := agesBehind(t, x, 0); got != want {
				t.Errorf("hello %d, age %d: %d ticks, not %d", hello, age, got, want)
			}
			if want < 2 {
				continue
			}
			again, _ := Step(Hear(rvar.Tick(rvar.Tick(x)), 0, m), 0)
			if got := agesBehind(t, again, 0); got != want {
				t.Errorf("again: hello %d: %d ticks, not %d", hello, got, want)
			}
			m.V.Bridge, m.V.Root = 9, 9
			worse, _ := Step(Hear(rvar.Tick(rvar.Tick(x)), 0, m), 0)
			if got := agesBehind(t, worse, 0); got != want-2 {
				t.Errorf("worse: hello %d: %d ticks, not %d", hello, got, want-2)
			}
		}
	}
}

// P11.4: only what was received ages.
func TestOthersDoNotAge(t *testing.T) {
	for _, is := range []api.InfoIs{api.InfoAged, api.InfoMine, api.InfoDisabled, 4, -1} {
		p := current(is)
		p.InfoWhile = 0
		if x, ok := Step(api.Tree{P: []api.Port{p}}, 0); ok {
			t.Errorf("%d: %+v", is, x)
		}
	}
}

// live leads a port, of which its bridge began, through much by chance, as a spanning tree does.
func live(r *rand.Rand, x api.Tree, i int) api.Tree {
	for range r.Intn(40) {
		switch r.Intn(5) {
		case 0:
			x = rvar.Up(x, i, r.Intn(4) > 0)
		case 1:
			x = Hear(x, i, anyMessage(r))
		case 2:
			x = rvar.Tick(x)
		case 3: // roles are selected
			x = rvar.Copy(x)
			p := &x.P[i]
			p.Reselect, p.Selected = false, true
			p.Update = p.Is == api.InfoAged || p.Is != api.InfoDisabled && r.Intn(2) == 0
			p.Desig.Root, p.Agree, p.Proposing = uint64(r.Intn(4)), r.Intn(2) == 0, r.Intn(2) == 0
		default:
			x, _ = Step(x, i)
		}
	}
	return x
}

// P11.5: whatever happened to the port ahead, and whatever is heard, or passes, behind.
func TestDown(t *testing.T) {
	r := rand.New(rand.NewSource(8))
	for range 4000 {
		i := r.Intn(3)
		x := rvar.Up(live(r, begin(t, 3), i), i, false)
		for steps, ok := 0, true; ok; steps++ {
			if x, ok = Step(x, i); steps > 2 {
				t.Fatalf("does not rest: %+v", x.P[i])
			}
		}
		if p := x.P[i]; p.Pim != api.PimDisabled || p.Is != api.InfoDisabled || p.GotMsg {
			t.Fatalf("%+v", p)
		}
		for range 10 {
			then := Hear(x, i, anyMessage(r))
			if then, ok := Step(then, i); ok || !alike(then, x) {
				t.Fatalf("does not stay: %+v", then.P[i])
			}
			x = rvar.Tick(x)
		}
	}
}

// P11.5: one step from any state, by hand too; a message that was there is let go.
func TestDownAtOnce(t *testing.T) {
	every(20, func(r *rand.Rand, p api.Port) {
		p.Up = false
		if p.Is == api.InfoDisabled && (p.Pim == api.PimAged || p.Pim == api.PimCurrent) {
			return // no port that began as all do is so
		}
		x := api.Tree{P: []api.Port{p}}
		got, ok := Step(x, 0)
		if ok {
			same(t, "down", got, api.Tree{P: []api.Port{isDisabled(p)}})
		} else if p.Pim != api.PimDisabled || p.Is != api.InfoDisabled || p.GotMsg {
			t.Fatalf("stays: %+v", p)
		}
		if _, ok = Step(got, 0); ok {
			t.Fatalf("does not rest: %+v", got.P[0])
		}
	})
}

// spoil changes all ports, and what stands behind them in memory.
func spoil(x api.Tree) {
	for i := range x.P {
		x.P[i] = api.Port{ID: 0xdead}
	}
	_ = append(x.P, api.Port{ID: 0xbeef})
}

// What is handed in stays, be there room behind its ports; what is told of it is one's own, where anything changed.
func TestOwnMemory(t *testing.T) {
	m := api.BPDU{Kind: api.RST, Role: api.Designated}
	for _, x := range trees(9) {
		for i := range x.P {
			room := append(slices.Clone(x.P), api.Port{ID: 0x1234})
			kept := slices.Clone(room)
			handed := x
			handed.P = room[:len(x.P)]
			step, ok := Step(handed, i)
			other, _ := Step(handed, i)
			hear, again := Hear(handed, i, m), Hear(handed, i, m)
			if !slices.Equal(room, kept) {
				t.Fatal("what was handed in has changed")
			}
			if ok {
				_, want := stepOf(x.P[i])
				spoil(step)
				same(t, "Step shares memory", other, put(x, i, want))
			}
			if x.P[i].Up {
				spoil(hear)
				same(t, "Hear shares memory", again, put(x, i, again.P[i]))
			}
			if !slices.Equal(room, kept) {
				t.Fatal("what was handed in is shared")
			}
			spoil(handed)
			if ok && other.P[i].ID != x.P[i].ID || x.P[i].Up && again.P[i].ID != x.P[i].ID {
				t.Fatal("an answer changes with what was handed in")
			}
		}
	}
}

// The same is answered to the same.
func TestNothingKept(t *testing.T) {
	for _, x := range trees(10) {
		for i := range x.P {
			first, one := Step(x, i)
			for range 2 {
				second, other := Step(x, i)
				if same(t, "again", second, first); one != other {
					t.Fatal("one steps, the other does not")
				}
			}
		}
	}
}
