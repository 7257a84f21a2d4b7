package change

import (
	"math"
	"math/rand"
	"reflect"
	"slices"
	"testing"

	"pontage/api"
)

// What the document says, said again without the package.

// rule is one of the document's rules: what it does to the tree, which is one's own.
type rule struct {
	name string
	so   bool
	do   func(x api.Tree, i int)
}

func isQuiet(x api.Tree, i int) {
	p := &x.P[i]
	p.Flush, p.TcWhile, p.TcAck, p.Tcm = true, 0, false, 1
}

func itLearns(x api.Tree, i int) {
	p := &x.P[i]
	p.GotTC, p.GotTCN, p.GotAck, p.TcProp, p.Tcm = false, false, false, false, 2
}

func newWhile(x api.Tree, i int) {
	p := &x.P[i]
	if p.TcWhile > 0 {
		return
	}
	both := int(x.RootT.Max) + int(x.RootT.Delay)
	if p.SendRSTP {
		both = int(x.RootT.Hello) + 1
		p.NewInfo = true
	}
	if both > 255 {
		both = 255
	}
	p.TcWhile = uint8(both)
}

func prop(x api.Tree, i int) {
	for k := range x.P {
		x.P[k].TcProp = k != i || x.P[k].TcProp
	}
}

// rulesOf are the document's rules for a port, in their order.
func rulesOf(x api.Tree, i int) []rule {
	p := x.P[i]
	place := p.Role == 3 || p.Role == 4
	came := p.GotTC || p.GotTCN || p.GotAck || p.TcProp
	switch p.Tcm {
	case 1:
		return []rule{{"Inactive: learns", p.Learn && !p.Flush, itLearns}}
	case 2:
		return []rule{
			{"Learning: forwards", place && p.Forward, func(x api.Tree, i int) {
				newWhile(x, i)
				prop(x, i)
				x.P[i].NewInfo, x.P[i].Tcm = true, 3
			}},
			{"Learning: quiet", !place && !(p.Learn || p.Learning || came), isQuiet},
			{"Learning: something came", came, itLearns},
		}
	case 3:
		return []rule{
			{"Active: no place", !place, itLearns},
			{"Active: TCN", p.GotTCN, func(x api.Tree, i int) {
				newWhile(x, i)
				gotTC(x, i)
			}},
			{"Active: TC", p.GotTC, gotTC},
			{"Active: others", p.TcProp, func(x api.Tree, i int) {
				newWhile(x, i)
				x.P[i].Flush, x.P[i].TcProp = true, false
			}},
			{"Active: ack", p.GotAck, func(x api.Tree, i int) { x.P[i].TcWhile, x.P[i].GotAck = 0, false }},
		}
	}
	return []rule{{"any other", true, isQuiet}}
}

func gotTC(x api.Tree, i int) {
	p := &x.P[i]
	p.GotTCN, p.GotTC = false, false
	if p.Role == 4 {
		p.TcAck = true
	}
	prop(x, i)
}

// names are those of all rules of the document, and of none ("").
var names = []string{
	"", "any other", "Inactive: learns", "Learning: forwards", "Learning: quiet", "Learning: something came",
	"Active: no place", "Active: TCN", "Active: TC", "Active: others", "Active: ack",
}

// stepOf is the first of the document's rules that is so: its name, the tree behind it, and whether there was a step.
func stepOf(x api.Tree, i int) (string, api.Tree, bool) {
	for _, r := range rulesOf(x, i) {
		if r.so {
			x.P = slices.Clone(x.P)
			r.do(x, i)
			return r.name, x, true
		}
	}
	return "", x, false
}

// Trees by chance.

var (
	states = []api.State{api.TcmInactive, api.TcmLearning, api.TcmActive}
	wrong  = []api.State{math.MinInt, -1, api.NoState, 4, 5, math.MaxInt}
	all    = []api.Role{api.Disabled, api.Alternate, api.Backup, api.Root, api.Designated}
	others = []api.Role{math.MinInt, -1, 5, math.MaxInt} // none of them is a role
	usual  = api.Times{Max: 20, Hello: 2, Delay: 15}
)

func one[T any](r *rand.Rand, list []T) T {
	return list[r.Intn(len(list))]
}

// fill gives each part of a value something by chance, small numbers mostly.
func fill(r *rand.Rand, v reflect.Value) {
	switch v.Kind() {
	case reflect.Struct:
		for i := range v.NumField() {
			fill(r, v.Field(i))
		}
	case reflect.Bool:
		v.SetBool(r.Intn(2) == 0)
	case reflect.Int:
		v.SetInt(int64(r.Intn(7) - 1))
	case reflect.Uint8:
		v.SetUint([...]uint64{0, 1, 2, 127, 128, 254, 255}[r.Intn(7)])
	case reflect.Uint16, reflect.Uint32, reflect.Uint64:
		v.SetUint(r.Uint64() >> (64 - v.Type().Bits()))
	}
}

// anyPort is one by chance, to which nothing came now and then.
func anyPort(r *rand.Rand) api.Port {
	var p api.Port
	fill(r, reflect.ValueOf(&p).Elem())
	p.Tcm, p.Role = one(r, states), one(r, all)
	if r.Intn(10) == 0 {
		p.Tcm = one(r, wrong)
	}
	if r.Intn(10) == 0 {
		p.Role = one(r, others)
	}
	for _, came := range []*bool{&p.GotTC, &p.GotTCN, &p.GotAck, &p.TcProp} {
		*came = r.Intn(4) == 0
	}
	if r.Intn(2) == 0 {
		p.TcWhile = 0
	}
	return p
}

// anyTree is one by chance, with that many ports.
func anyTree(r *rand.Rand, n int) api.Tree {
	var x api.Tree
	fill(r, reflect.ValueOf(&x).Elem())
	for range n {
		x.P = append(x.P, anyPort(r))
	}
	return x
}

// trees are many by chance, of none to ten ports: more than a bridge has, too.
func trees(seed int64) []api.Tree {
	r := rand.New(rand.NewSource(seed))
	list := []api.Tree{{}, {P: []api.Port{}}, {P: make([]api.Port, 3)}}
	for n := range 11 {
		for range 300 {
			list = append(list, anyTree(r, n))
		}
	}
	return list
}

// flags are all of a port that the machine asks for, or changes.
func flags(p *api.Port) []*bool {
	return []*bool{
		&p.Learn, &p.Learning, &p.Forward, &p.Flush, &p.GotTC, &p.GotTCN, &p.GotAck, &p.TcProp,
		&p.SendRSTP, &p.NewInfo, &p.TcAck,
	}
}

// ports are those of each state, each role, with all flags, and a timer that runs or does not; all else by chance.
func ports(seed int64) func(yield func(p api.Port) bool) {
	r := rand.New(rand.NewSource(seed))
	return func(yield func(p api.Port) bool) {
		for _, state := range append(slices.Clone(states), -1, api.NoState, 4) {
			for _, role := range append(slices.Clone(all), -1, 5) {
				for bits := range 1 << 12 {
					p := anyPort(r)
					p.Tcm, p.Role, p.TcWhile = state, role, uint8(bits>>11*9)
					for n, flag := range flags(&p) {
						*flag = bits>>n&1 == 1
					}
					if !yield(p) {
						return
					}
				}
			}
		}
	}
}

func alike(a, b api.Tree) bool {
	return slices.Equal(a.P, b.P) && a.ID == b.ID && a.T == b.T && a.TxHold == b.TxHold && a.Began == b.Began &&
		a.RootPort == b.RootPort && a.Root == b.Root && a.RootT == b.RootT
}

// same holds that a tree, and each field of each port, is what it should be.
func same(t *testing.T, what string, got, want api.Tree) {
	t.Helper()
	if alike(got, want) {
		return
	}
	if len(got.P) != len(want.P) {
		t.Fatalf("%s: %d ports, not %d", what, len(got.P), len(want.P))
	}
	for i := range want.P {
		for f := range reflect.TypeFor[api.Port]().NumField() {
			g, w := reflect.ValueOf(got.P[i]).Field(f).Interface(), reflect.ValueOf(want.P[i]).Field(f).Interface()
			if g != w {
				t.Errorf("%s: port %d: %s is %v, not %v", what, i, reflect.TypeFor[api.Port]().Field(f).Name, g, w)
			}
		}
	}
	t.Fatalf("%s: %+v, not %+v", what, got, want)
}

// hold holds a step against the document's words: which rule it was.
func hold(t *testing.T, x api.Tree, i int) string {
	t.Helper()
	name, want, steps := stepOf(x, i)
	got, ok := Tcm(x, i)
	same(t, name, got, want)
	if ok != steps {
		t.Fatalf("%q: told %v of %+v", name, ok, x.P[i])
	}
	return name
}

// met holds that each of the rules was met often enough.
func met(t *testing.T, seen map[string]int) {
	t.Helper()
	for _, name := range names {
		if seen[name] < 20 {
			t.Errorf("%q was met %d times", name, seen[name])
		}
	}
}
