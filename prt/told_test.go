package prt

import (
	"math"
	"math/rand"
	"reflect"
	"slices"
	"testing"

	"pontage/api"
)

// What the document says, said again without the package, and without rvar.

// told is one of the document's rules: what it does to the port, and then to all ports.
type told struct {
	name string
	so   bool
	own  func(p *api.Port)
	all  func(p *api.Port)
}

func isDisabled(p *api.Port) {
	p.FdWhile, p.Synced, p.RrWhile, p.Sync, p.ReRoot, p.Prt = p.DesigT.Max, true, 0, false, false, 2
}

func isBlocked(p *api.Port) {
	p.FdWhile, p.Synced, p.RrWhile, p.Sync, p.ReRoot, p.Prt = p.DesigT.Delay, true, 0, false, false, 6
}

func allSync(p *api.Port) { p.Sync = true }

func allReRoot(p *api.Port) { p.ReRoot = true }

func delay(p *api.Port) uint8 {
	if p.SendRSTP {
		return p.DesigT.Hello
	}
	return p.DesigT.Delay
}

func inStep(x api.Tree, i int) bool {
	count := 0
	for at, p := range x.P {
		if p.Selected && !p.Update && p.Role == p.Wanted && (at == i || p.Synced || p.Role == 3) {
			count++
		}
	}
	return count == len(x.P)
}

func rootAtOnce(x api.Tree, i int) bool {
	sum := 0
	for at, p := range x.P {
		if at != i {
			sum += int(p.RrWhile)
		}
	}
	return sum == 0 && x.P[i].Backup == 0
}

// toldOf are the document's rules for a port, in their order.
func toldOf(x api.Tree, i int) []told {
	p := x.P[i]
	list := []told{
		{"begins", p.Prt < 1 || p.Prt > 6, func(p *api.Port) {
			p.Role, p.Learn, p.Forward, p.Synced, p.Sync, p.ReRoot = 0, false, false, false, true, true
			p.RrWhile, p.FdWhile, p.Backup, p.Prt = p.DesigT.Delay, p.DesigT.Max, 0, 1
		}, nil},
		{"held", !(p.Selected && !p.Update), nil, nil},
		{"Disabled is wanted", p.Wanted != p.Role && p.Wanted == 0, func(p *api.Port) { p.Role, p.Learn, p.Forward, p.Prt = 0, false, false, 1 }, nil},
		{"Root is wanted", p.Wanted != p.Role && p.Wanted == 3, func(p *api.Port) { p.Role, p.RrWhile, p.Prt = 3, p.DesigT.Delay, 3 }, nil},
		{"Designated is wanted", p.Wanted != p.Role && p.Wanted == 4, func(p *api.Port) { p.Role, p.Prt = 4, 4 }, nil},
		{"another one is wanted", p.Wanted != p.Role, func(p *api.Port) { p.Role, p.Learn, p.Forward, p.Prt = p.Wanted, false, false, 5 }, nil},
		{"Disable: ends", p.Prt == 1 && !p.Learning && !p.Forwarding, isDisabled, nil},
		{"Disabled: again", p.Prt == 2 && !(p.FdWhile == p.DesigT.Max && !p.Sync && !p.ReRoot && p.Synced), isDisabled, nil},
		{"Block: ends", p.Prt == 5 && !p.Learning && !p.Forwarding, isBlocked, nil},
	}
	switch p.Prt {
	case 3:
		return append(list, toldOfRoot(x, i)...)
	case 4:
		return append(list, toldOfDesignated(p)...)
	case 6:
		return append(list, toldOfAlternate(x, i)...)
	}
	return list
}

func toldOfRoot(x api.Tree, i int) []told {
	p := x.P[i]
	ready := p.FdWhile == 0 || rootAtOnce(x, i)
	return []told{
		{"Root: proposed", p.Proposed && !p.Agree, func(p *api.Port) { p.Proposed = false }, allSync},
		{"Root: agrees", !p.Agree && inStep(x, i), func(p *api.Port) { p.Proposed, p.Sync, p.Agree, p.NewInfo = false, false, true, true }, nil},
		{"Root: agrees again", p.Proposed && p.Agree, func(p *api.Port) { p.Proposed, p.Sync, p.Agree, p.NewInfo = false, false, true, true }, nil},
		{"Root: asks others", !p.Forward && !p.ReRoot, func(p *api.Port) {}, allReRoot},
		{"Root: others did", p.ReRoot && p.Forward, func(p *api.Port) { p.ReRoot = false }, nil},
		{"Root: learns", ready && !p.Learn, func(p *api.Port) { p.Learn, p.FdWhile = true, delay(p) }, nil},
		{"Root: forwards", ready && p.Learn && !p.Forward, func(p *api.Port) { p.Forward, p.FdWhile = true, 0 }, nil},
		{"Root: lately", p.RrWhile != p.DesigT.Delay, func(p *api.Port) { p.RrWhile = p.DesigT.Delay }, nil},
	}
}

func toldOfDesignated(p api.Port) []told {
	sync := func(p *api.Port) { p.RrWhile, p.Synced, p.Sync = 0, true, false }
	stop := func(p *api.Port) { p.Learn, p.Forward, p.Disputed, p.FdWhile = false, false, false, delay(p) }
	on := p.Learn || p.Forward
	goes := (p.FdWhile == 0 || p.Agreed) && (p.RrWhile == 0 || !p.ReRoot) && !p.Sync
	return []told{
		{"Designated: proposes", !(p.Forward || p.Agreed || p.Proposing), func(p *api.Port) { p.Proposing, p.NewInfo = true, true }, nil},
		{"Designated: in step, it is still", !(p.Learning || p.Forwarding || p.Synced), sync, nil},
		{"Designated: in step, agreed", p.Agreed && !p.Synced, sync, nil},
		{"Designated: in step already", p.Sync && p.Synced, sync, nil},
		{"Designated: was root long ago", p.RrWhile == 0 && p.ReRoot, func(p *api.Port) { p.ReRoot = false }, nil},
		{"Designated: stops to be in step", p.Sync && !p.Synced && on, stop, nil},
		{"Designated: stops, root lately", p.ReRoot && p.RrWhile != 0 && on, stop, nil},
		{"Designated: stops, disputed", p.Disputed && on, stop, nil},
		{"Designated: learns", goes && !p.Learn, func(p *api.Port) { p.Learn, p.FdWhile = true, delay(p) }, nil},
		{"Designated: forwards", goes && p.Learn && !p.Forward, func(p *api.Port) { p.Forward, p.FdWhile, p.Agreed = true, 0, p.SendRSTP }, nil},
	}
}

func toldOfAlternate(x api.Tree, i int) []told {
	p := x.P[i]
	agrees := func(p *api.Port) { p.Proposed, p.Agree, p.NewInfo = false, true, true }
	twiceHello := uint8(255)
	if p.DesigT.Hello < 128 {
		twiceHello = p.DesigT.Hello + p.DesigT.Hello
	}
	return []told{
		{"Alternate: proposed", p.Proposed && !p.Agree, func(p *api.Port) { p.Proposed = false }, allSync},
		{"Alternate: agrees", !p.Agree && inStep(x, i), agrees, nil},
		{"Alternate: agrees again", p.Proposed && p.Agree, agrees, nil},
		{"Alternate: again", !(p.FdWhile == p.DesigT.Delay && !p.Sync && !p.ReRoot && p.Synced), isBlocked, nil},
		{"Alternate: backup", p.Role == 2 && p.Backup != twiceHello, func(p *api.Port) { p.Backup = twiceHello }, nil},
	}
}

// names are those of all rules of the document, and of none ("").
var names = []string{
	"", "begins", "held", "Disabled is wanted", "Root is wanted", "Designated is wanted", "another one is wanted", "Disable: ends", "Disabled: again", "Block: ends",
	"Root: proposed", "Root: agrees", "Root: agrees again", "Root: asks others", "Root: others did", "Root: learns", "Root: forwards", "Root: lately",
	"Designated: proposes", "Designated: in step, it is still", "Designated: in step, agreed", "Designated: in step already", "Designated: was root long ago",
	"Designated: stops to be in step", "Designated: stops, root lately", "Designated: stops, disputed", "Designated: learns", "Designated: forwards",
	"Alternate: proposed", "Alternate: agrees", "Alternate: agrees again", "Alternate: again", "Alternate: backup",
}

// stepOf is the first of the document's rules that is so: its name, the tree behind it, and whether there was a step.
func stepOf(x api.Tree, i int) (string, api.Tree, bool) {
	for _, r := range toldOf(x, i) {
		if !r.so {
			continue
		}
		if r.own == nil {
			return r.name, x, false
		}
		x.P = slices.Clone(x.P)
		r.own(&x.P[i])
		for k := range x.P {
			if r.all != nil {
				r.all(&x.P[k])
			}
		}
		return r.name, x, true
	}
	return "", x, false
}

// Trees by chance.

var (
	states = []api.State{api.PrtDisable, api.PrtDisabled, api.PrtRoot, api.PrtDesig, api.PrtBlock, api.PrtAlternate}
	wrong  = []api.State{math.MinInt, -1, api.NoState, 7, 8, math.MaxInt}
	roles  = []api.Role{api.Disabled, api.Alternate, api.Backup, api.Root, api.Designated}
	others = []api.Role{math.MinInt, -1, 5, math.MaxInt} // none of them is a role
	usual  = api.Times{Max: 20, Hello: 2, Delay: 15}
)

func one[T any](r *rand.Rand, list []T) T {
	return list[r.Intn(len(list))]
}

// fill gives each part of a value something by chance, small numbers mostly, so that they meet.
func fill(r *rand.Rand, v reflect.Value) {
	switch v.Kind() {
	case reflect.Struct:
		for i := range v.NumField() {
			fill(r, v.Field(i))
		}
	case reflect.Bool:
		v.SetBool(r.Intn(2) == 0)
	case reflect.Int:
		v.SetInt(int64(r.Intn(7) - 1))
	case reflect.Uint8:
		v.SetUint([...]uint64{0, 1, 2, 127, 128, 255}[r.Intn(6)])
	case reflect.Uint16, reflect.Uint32, reflect.Uint64:
		v.SetUint(r.Uint64() >> (64 - v.Type().Bits()))
	}
}

// anyPort is one by chance, that has the role that is wanted, and is not held, more often than not.
func anyPort(r *rand.Rand) api.Port {
	var p api.Port
	fill(r, reflect.ValueOf(&p).Elem())
	p.Prt, p.Role, p.Wanted = one(r, states), one(r, roles), one(r, roles)
	if r.Intn(10) == 0 {
		p.Prt = one(r, wrong)
	}
	if r.Intn(10) == 0 {
		p.Role = one(r, others)
	}
	if r.Intn(10) == 0 {
		p.Wanted = one(r, others)
	}
	if r.Intn(4) > 0 {
		p.Selected, p.Update, p.Wanted = true, false, p.Role
	}
	return p
}

// calm lets a port ask nothing of others: they find it in step, and root long ago.
func calm(p *api.Port) {
	p.Selected, p.Update, p.Wanted, p.Synced, p.RrWhile = true, false, p.Role, true, 0
}

// meet lets a port's timers be, now and then, what the rules hold them against.
func meet(r *rand.Rand, p *api.Port) {
	p.FdWhile = one(r, []uint8{0, p.FdWhile, p.DesigT.Max, p.DesigT.Delay, p.DesigT.Hello})
	p.RrWhile = one(r, []uint8{0, p.RrWhile, p.DesigT.Delay, p.DesigT.Hello})
	p.Backup = one(r, []uint8{0, p.Backup, 2 * p.DesigT.Hello, p.DesigT.Hello, 255})
}

// anyTree is one by chance, with that many ports, of which some ask nothing, or but one thing, of others.
func anyTree(r *rand.Rand, n int) api.Tree {
	var x api.Tree
	fill(r, reflect.ValueOf(&x).Elem())
	quiet := r.Intn(2) == 0
	for range n {
		p := anyPort(r)
		meet(r, &p)
		if quiet {
			calm(&p)
			p.Synced = r.Intn(8) > 0
			p.RrWhile = uint8(1 - min(r.Intn(8), 1))
			p.Update = r.Intn(16) == 0
		}
		x.P = append(x.P, p)
	}
	return x
}

// trees are many by chance, of none to ten ports: more than a bridge has, too.
func trees(seed int64) []api.Tree {
	r := rand.New(rand.NewSource(seed))
	list := []api.Tree{{}, {P: []api.Port{}}, {P: make([]api.Port, 3)}}
	for n := range 11 {
		for range 600 {
			list = append(list, anyTree(r, n))
		}
	}
	return list
}

func alike(a, b api.Tree) bool {
	return slices.Equal(a.P, b.P) && a.ID == b.ID && a.T == b.T && a.TxHold == b.TxHold && a.Began == b.Began &&
		a.RootPort == b.RootPort && a.Root == b.Root && a.RootT == b.RootT
}

// same holds that a tree, and each field of each port, is what it should be.
func same(t *testing.T, what string, got, want api.Tree) {
	t.Helper()
	if alike(got, want) {
		return
	}
	if len(got.P) != len(want.P) {
		t.Fatalf("%s: %d ports, not %d", what, len(got.P), len(want.P))
	}
	for i := range want.P {
		for f := range reflect.TypeFor[api.Port]().NumField() {
			g, w := reflect.ValueOf(got.P[i]).Field(f).Interface(), reflect.ValueOf(want.P[i]).Field(f).Interface()
			if g != w {
				t.Errorf("%s: port %d: %s is %v, not %v", what, i, reflect.TypeFor[api.Port]().Field(f).Name, g, w)
			}
		}
	}
	t.Fatalf("%s: %+v, not %+v", what, got, want)
}

// hold holds a step against the document's words: which rule it was.
func hold(t *testing.T, x api.Tree, i int) string {
	t.Helper()
	name, want, steps := stepOf(x, i)
	got, ok := Step(x, i)
	same(t, name, got, want)
	if ok != steps {
		t.Fatalf("%q: told %v of %+v", name, ok, x.P[i])
	}
	return name
}

// met holds that each of the rules was met often enough.
func met(t *testing.T, seen map[string]int, must []string) {
	t.Helper()
	for _, name := range must {
		if seen[name] < 20 {
			t.Errorf("%q was met %d times", name, seen[name])
		}
	}
}
