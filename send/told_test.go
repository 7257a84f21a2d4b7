package send

import (
	"math"
	"math/rand"
	"reflect"
	"slices"
	"testing"

	"pontage/api"
)

// What the document says, said again without the package, and without rvar.

// rule is one of the document's rules: what it does to the port, and whether its message goes out.
type rule struct {
	name string
	so   bool
	do   func(p *api.Port)
	out  bool
}

// sayOf is the document's message of a port.
func sayOf(p api.Port) api.BPDU {
	change := p.TcWhile > 0
	if p.SendRSTP {
		role := map[api.Role]api.Role{1: 1, 2: 1, 3: 3, 4: 4}[p.Role]
		return api.BPDU{Kind: 3, TC: change, Proposal: p.Proposing, Learning: p.Learning, Forward: p.Forwarding, Agreement: p.Agree, Role: role, V: p.Desig, T: p.DesigT}
	}
	if p.Role == 4 {
		return api.BPDU{Kind: 1, TC: change, Ack: p.TcAck, V: p.Desig, T: p.DesigT}
	}
	return api.BPDU{Kind: 2}
}

func itWaits(p *api.Port) {
	p.Hello = p.DesigT.Hello
	if p.Hello == 0 {
		p.Hello = 1
	}
}

// ptxRules are the document's rules of transmission, in their order.
func ptxRules(x api.Tree, i int) []rule {
	p := x.P[i]
	held := !p.Selected || p.Update
	news := func(p *api.Port) { p.NewInfo = true; itWaits(p) }
	may := p.Up && p.NewInfo && p.TxCount < x.TxHold
	sent := func(p *api.Port) { p.NewInfo, p.TxCount, p.TcAck = false, p.TxCount+1, false; itWaits(p) }
	return []rule{
		{"begins", p.Ptx != 1, func(p *api.Port) { p.NewInfo, p.TxCount, p.Ptx = true, 0, 1; itWaits(p) }, false},
		{"held", held, nil, false},
		{"hello: new already", p.Hello == 0 && p.NewInfo, news, false},
		{"hello: designated", p.Hello == 0 && p.Role == 4, news, false},
		{"hello: root, a change", p.Hello == 0 && p.Role == 3 && p.TcWhile > 0, news, false},
		{"hello: nothing to say", p.Hello == 0, itWaits, false},
		{"RST", may && p.SendRSTP, sent, true},
		{"Config", may && p.Role == 4, sent, true},
		{"TCN", may && p.Role == 3, func(p *api.Port) { p.NewInfo, p.TxCount = false, p.TxCount+1; itWaits(p) }, true},
	}
}

func itChecks(p *api.Port) { p.SendRSTP, p.Migrate, p.Ppm = true, 3, 1 }

func itSenses(p *api.Port) { p.GotRSTP, p.GotSTP, p.Ppm = false, false, 3 }

// ppmRules are the document's rules of versions, in their order.
func ppmRules(x api.Tree, i int) []rule {
	p := x.P[i]
	return []rule{
		{"begins", p.Ppm != 1 && p.Ppm != 2 && p.Ppm != 3, itChecks, false},
		{"Checking: down", p.Ppm == 1 && !p.Up && p.Migrate != 3, itChecks, false},
		{"Checking: ends", p.Ppm == 1 && p.Migrate == 0, itSenses, false},
		{"Sensing: down", p.Ppm == 3 && !p.Up, itChecks, false},
		{"Sensing: RSTP", p.Ppm == 3 && !p.SendRSTP && p.GotRSTP, itChecks, false},
		{"Sensing: STP", p.Ppm == 3 && p.SendRSTP && p.GotSTP, func(p *api.Port) { p.SendRSTP, p.Migrate, p.Ppm = false, 3, 2 }, false},
		{"Selecting: ends", p.Ppm == 2 && p.Migrate == 0, itSenses, false},
		{"Selecting: down", p.Ppm == 2 && !p.Up, itSenses, false},
	}
}

// names are those of all rules of the document, and of none ("").
var (
	ptxNames = []string{
		"", "begins", "held", "hello: new already", "hello: designated", "hello: root, a change", "hello: nothing to say", "RST", "Config", "TCN",
	}
	ppmNames = []string{
		"", "begins", "Checking: down", "Checking: ends", "Sensing: down", "Sensing: RSTP", "Sensing: STP", "Selecting: ends", "Selecting: down",
	}
)

// stepOf is the first of rules that is so: its name, the tree behind it, what goes out, and whether there was a step.
func stepOf(x api.Tree, i int, rules []rule) (string, api.Tree, []api.Out, bool) {
	for _, r := range rules {
		if !r.so {
			continue
		}
		if r.do == nil {
			return r.name, x, nil, false
		}
		var out []api.Out
		if r.out {
			out = []api.Out{{Port: i, M: sayOf(x.P[i])}}
		}
		x.P = slices.Clone(x.P)
		r.do(&x.P[i])
		return r.name, x, out, true
	}
	return "", x, nil, false
}

// Trees by chance.

var (
	wrongPtx = []api.State{math.MinInt, -1, api.NoState, 2, 3, math.MaxInt}
	versions = []api.State{api.PpmChecking, api.PpmSelecting, api.PpmSensing}
	wrongPpm = []api.State{math.MinInt, -1, api.NoState, 4, 5, math.MaxInt}
	all      = []api.Role{api.Disabled, api.Alternate, api.Backup, api.Root, api.Designated}
	others   = []api.Role{math.MinInt, -1, 5, 6, math.MaxInt} // none of them is a role
	usual    = api.Times{Max: 20, Hello: 2, Delay: 15}
)

// anyRole are all that are, and some that are none.
func anyRole() []api.Role {
	return append(slices.Clone(all), others...)
}

func one[T any](r *rand.Rand, list []T) T {
	return list[r.Intn(len(list))]
}

// fill gives each part of a value something by chance, edges mostly.
func fill(r *rand.Rand, v reflect.Value) {
	switch v.Kind() {
	case reflect.Struct:
		for i := range v.NumField() {
			fill(r, v.Field(i))
		}
	case reflect.Bool:
		v.SetBool(r.Intn(2) == 0)
	case reflect.Int:
		v.SetInt(int64(r.Intn(7) - 1))
	case reflect.Uint8:
		v.SetUint([...]uint64{0, 1, 2, 3, 4, 127, 254, 255}[r.Intn(8)])
	case reflect.Uint16, reflect.Uint32, reflect.Uint64:
		v.SetUint(r.Uint64() >> (64 - v.Type().Bits()))
	}
}

// anyPort is one by chance, which may tell something more often than not.
func anyPort(r *rand.Rand) api.Port {
	var p api.Port
	fill(r, reflect.ValueOf(&p).Elem())
	p.Ptx, p.Ppm, p.Role = api.PtxIdle, one(r, versions), one(r, all)
	if r.Intn(10) == 0 {
		p.Ptx = one(r, wrongPtx)
	}
	if r.Intn(10) == 0 {
		p.Ppm = one(r, wrongPpm)
	}
	if r.Intn(10) == 0 {
		p.Role = one(r, others)
	}
	p.Selected, p.Update = r.Intn(8) > 0, r.Intn(8) == 0
	if r.Intn(2) == 0 {
		p.TxCount, p.TcWhile = 0, 0
	}
	return p
}

// anyTree is one by chance, with that many ports.
func anyTree(r *rand.Rand, n int) api.Tree {
	var x api.Tree
	fill(r, reflect.ValueOf(&x).Elem())
	for range n {
		x.P = append(x.P, anyPort(r))
	}
	return x
}

// trees are many by chance, of none to ten ports: more than a bridge has, too.
func trees(seed int64) []api.Tree {
	r := rand.New(rand.NewSource(seed))
	list := []api.Tree{{}, {P: []api.Port{}}, {P: make([]api.Port, 3)}}
	for n := range 11 {
		for range 300 {
			list = append(list, anyTree(r, n))
		}
	}
	return list
}

// set puts flags, by the bits of a number, the lowest first.
func set(bits int, flags ...*bool) {
	for n, flag := range flags {
		*flag = bits>>n&1 == 1
	}
}

func alike(a, b api.Tree) bool {
	return slices.Equal(a.P, b.P) && a.ID == b.ID && a.T == b.T && a.TxHold == b.TxHold && a.Began == b.Began &&
		a.RootPort == b.RootPort && a.Root == b.Root && a.RootT == b.RootT
}

// same holds that a tree, and each field of each port, is what it should be.
func same(t *testing.T, what string, got, want api.Tree) {
	t.Helper()
	if alike(got, want) {
		return
	}
	if len(got.P) != len(want.P) {
		t.Fatalf("%s: %d ports, not %d", what, len(got.P), len(want.P))
	}
	for i := range want.P {
		for f := range reflect.TypeFor[api.Port]().NumField() {
			g, w := reflect.ValueOf(got.P[i]).Field(f).Interface(), reflect.ValueOf(want.P[i]).Field(f).Interface()
			if g != w {
				t.Errorf("%s: port %d: %s is %v, not %v", what, i, reflect.TypeFor[api.Port]().Field(f).Name, g, w)
			}
		}
	}
	t.Fatalf("%s: %+v, not %+v", what, got, want)
}

// holdPtx holds a step of transmission against the document's words: which rule it was.
func holdPtx(t *testing.T, x api.Tree, i int) string {
	t.Helper()
	name, want, sent, steps := stepOf(x, i, ptxRules(x, i))
	got, out, ok := Ptx(x, i)
	same(t, name, got, want)
	if ok != steps || !slices.Equal(out, sent) {
		t.Fatalf("%q: told %v, %+v of %+v", name, ok, out, x.P[i])
	}
	return name
}

// holdPpm holds a step of versions against the document's words: which rule it was.
func holdPpm(t *testing.T, x api.Tree, i int) string {
	t.Helper()
	name, want, _, steps := stepOf(x, i, ppmRules(x, i))
	got, ok := Ppm(x, i)
	same(t, name, got, want)
	if ok != steps {
		t.Fatalf("%q: told %v of %+v", name, ok, x.P[i])
	}
	return name
}

// met holds that each of the rules was met often enough.
func met(t *testing.T, names []string, seen map[string]int, least int) {
	t.Helper()
	for _, name := range names {
		if seen[name] < least {
			t.Errorf("%q was met %d times", name, seen[name])
		}
	}
}
