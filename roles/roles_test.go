package roles

import (
	"bytes"
	"encoding/binary"
	"math"
	"math/rand"
	"reflect"
	"slices"
	"testing"

	"pontage/api"
	"pontage/pim"
	"pontage/rvar"
)

// All that there are, and some that there are not.
var iss = []api.InfoIs{math.MinInt, -1, api.InfoDisabled, api.InfoAged, api.InfoMine, api.InfoReceived, 4, math.MaxInt}

// What meets often: few bridges, some of one address and unlike priorities; few ports; costs whose sums go round.
var (
	ids   = []uint64{2, 3, 5, 1<<48 | 2, 1<<48 | 5, 0x8000<<48 | 3, 0x8000<<48 | 5, 1<<47 | 5, 0}
	ports = []uint16{0, 1, 0x8001, 0x8002, 0x9001}
	costs = []uint32{0, 1, 2, 5, 10, 1 << 31, math.MaxUint32 - 1, math.MaxUint32}
)

func one[T any](r *rand.Rand, list []T) T {
	return list[r.Intn(len(list))]
}

// fill gives each part of a value something by chance, small numbers mostly, so that they meet.
func fill(r *rand.Rand, v reflect.Value) {
	switch v.Kind() {
	case reflect.Struct:
		for i := range v.NumField() {
			fill(r, v.Field(i))
		}
	case reflect.Bool:
		v.SetBool(r.Intn(2) == 0)
	case reflect.Int:
		v.SetInt(int64(r.Intn(7) - 1))
	case reflect.Uint8:
		v.SetUint([...]uint64{0, 1, 2, 254, 255}[r.Intn(5)])
	case reflect.Uint16, reflect.Uint32, reflect.Uint64:
		v.SetUint(r.Uint64() >> (64 - v.Type().Bits()))
	}
}

func anyVector(r *rand.Rand) api.Vector {
	return api.Vector{Root: one(r, ids), Cost: one(r, costs), Bridge: one(r, ids), Port: one(r, ports)}
}

// anyPort is one by chance, which received what it has more often than not.
func anyPort(r *rand.Rand) api.Port {
	var p api.Port
	fill(r, reflect.ValueOf(&p).Elem())
	p.ID, p.Cost, p.Pri, p.Desig = one(r, ports), one(r, costs), anyVector(r), anyVector(r)
	if p.Is = one(r, iss); r.Intn(2) == 0 {
		p.Is = api.InfoReceived
	}
	return p
}

// anyTree is one by chance, with that many ports: more than a bridge has, too. Some ports lead where others do, some have what they would tell.
func anyTree(r *rand.Rand, n int) api.Tree {
	var x api.Tree
	fill(r, reflect.ValueOf(&x).Elem())
	x.ID = one(r, ids)
	for i := range n {
		p := anyPort(r)
		if i > 0 && r.Intn(3) == 0 {
			p.Pri, p.Cost = x.P[i-1].Pri, x.P[i-1].Cost
		}
		if r.Intn(3) == 0 {
			p.Pri.Root, p.Pri.Cost = 2, one(r, costs)
		}
		x.P = append(x.P, p)
	}
	if r.Intn(3) == 0 {
		known(r, x)
	}
	return x
}

// known lets ports have what they would tell, or nearly so.
func known(r *rand.Rand, x api.Tree) {
	then := selected(x)
	at, _ := rootOf(x)
	for i := range x.P {
		p := &x.P[i]
		if i == at {
			continue
		}
		p.Pri, p.PriT = then.P[i].Desig, then.P[i].DesigT
		switch r.Intn(4) {
		case 0:
			p.Pri.Port++
		case 1:
			p.PriT.Delay++
		}
	}
}

// trees are many by chance, of none to ten ports.
func trees(seed int64) []api.Tree {
	r := rand.New(rand.NewSource(seed))
	list := []api.Tree{{}, {P: []api.Port{}}, {P: make([]api.Port, 3)}, {ID: math.MaxUint64, Began: true}}
	for n := range 11 {
		for range 400 {
			list = append(list, anyTree(r, n))
		}
	}
	return list
}

// What the document says, said again without the package, and without vector.

func inBytes(v api.Vector) []byte {
	b := binary.BigEndian.AppendUint64(nil, v.Root)
	b = binary.BigEndian.AppendUint32(b, v.Cost)
	b = binary.BigEndian.AppendUint64(b, v.Bridge)
	return binary.BigEndian.AppendUint16(b, v.Port)
}

func better(a, b api.Vector) bool {
	return bytes.Compare(inBytes(a), inBytes(b)) < 0
}

func ofOwn(x api.Tree, p api.Port) bool {
	return p.Pri.Bridge%(1<<48) == x.ID%(1<<48)
}

// candidates are all ports' that have one, by their places.
func candidates(x api.Tree) map[int]api.Vector {
	all := map[int]api.Vector{}
	for i, p := range x.P {
		if p.Is == api.InfoReceived && !ofOwn(x, p) {
			v := p.Pri
			v.Cost = uint32((uint64(v.Cost) + uint64(p.Cost)) % (1 << 32))
			all[i] = v
		}
	}
	return all
}

// rootOf sorts all there is: by vectors, then by IDs, then by places.
func rootOf(x api.Tree) (int, api.Vector) {
	own := api.Vector{Root: x.ID, Bridge: x.ID}
	all := candidates(x)
	var places []int
	for i := range x.P {
		if _, ok := all[i]; ok {
			places = append(places, i)
		}
	}
	slices.SortStableFunc(places, func(i, k int) int {
		if order := bytes.Compare(inBytes(all[i]), inBytes(all[k])); order != 0 {
			return order
		}
		return int(x.P[i].ID) - int(x.P[k].ID)
	})
	if len(places) == 0 || !better(all[places[0]], own) {
		return -1, own
	}
	return places[0], all[places[0]]
}

func selected(x api.Tree) api.Tree {
	at, root := rootOf(x)
	y := x
	y.Root, y.RootPort, y.RootT = root, 0, x.T
	if at >= 0 {
		y.RootPort, y.RootT = x.P[at].ID, x.P[at].PriT
		y.RootT.Age = uint8(min(int(y.RootT.Age)+1, 255))
	}
	y.P = nil
	for i, p := range x.P {
		p.Desig = api.Vector{Root: root.Root, Cost: root.Cost, Bridge: x.ID, Port: p.ID}
		p.DesigT = api.Times{Age: y.RootT.Age, Max: y.RootT.Max, Hello: x.T.Hello, Delay: y.RootT.Delay}
		p.Wanted, p.Update = wanted(x, p, i == at)
		p.Reselect, p.Selected = false, true
		y.P = append(y.P, p)
	}
	return y
}

// wanted is a port's role, and whether it is to be updated, once it has what it would tell.
func wanted(x api.Tree, p api.Port, root bool) (api.Role, bool) {
	switch {
	case p.Is == api.InfoAged:
		return api.Designated, true
	case p.Is == api.InfoMine:
		return api.Designated, p.Update || p.Pri != p.Desig || p.PriT != p.DesigT
	case p.Is != api.InfoReceived:
		return api.Disabled, p.Update
	case root:
		return api.Root, false
	case better(p.Desig, p.Pri):
		return api.Designated, true
	case ofOwn(x, p):
		return api.Backup, false
	}
	return api.Alternate, false
}

func alike(a, b api.Tree) bool {
	if len(a.P) == 0 && len(b.P) == 0 {
		a.P, b.P = nil, nil
	}
	return reflect.DeepEqual(a, b)
}

// same holds that a tree, and each field of each port, is what it should be.
func same(t *testing.T, what string, got, want api.Tree) {
	t.Helper()
	if alike(got, want) {
		return
	}
	if len(got.P) != len(want.P) {
		t.Fatalf("%s: %d ports, not %d", what, len(got.P), len(want.P))
	}
	for i := range want.P {
		for f := range reflect.TypeFor[api.Port]().NumField() {
			g, w := reflect.ValueOf(got.P[i]).Field(f).Interface(), reflect.ValueOf(want.P[i]).Field(f).Interface()
			if g != w {
				t.Errorf("%s: port %d: %s is %v, not %v", what, i, reflect.TypeFor[api.Port]().Field(f).Name, g, w)
			}
		}
	}
	t.Fatalf("%s: %+v, not %+v", what, got, want)
}

// heard is a port that received a vector.
func heard(id uint16, cost uint32, v api.Vector) api.Port {
	return api.Port{ID: id, Cost: cost, Is: api.InfoReceived, Pri: v}
}

// P12.1: trees by chance; roots of their own, and of all places, are among them.
func TestRootOf(t *testing.T) {
	seen := map[int]int{}
	for _, x := range trees(1) {
		v, i := RootOf(x)
		at, want := rootOf(x)
		if v != want || i != at {
			t.Fatalf("%+v: %+v of %d, not %+v of %d", x, v, i, want, at)
		}
		seen[i]++
	}
	for at := -1; at < 8; at++ {
		if seen[at] < 20 {
			t.Errorf("root of %d: %d times", at, seen[at])
		}
	}
}

// P12.1: the edges by name.
func TestRootOfEdges(t *testing.T) {
	good := api.Vector{Root: 3, Cost: 5, Bridge: 4, Port: 0x8001}
	led := api.Vector{Root: 3, Cost: 15, Bridge: 4, Port: 0x8001}
	const own = 0x8000<<48 | 5
	mine := api.Vector{Root: own, Bridge: own}
	with := func(v api.Vector, change func(v *api.Vector)) api.Vector {
		change(&v)
		return v
	}
	for name, c := range map[string]struct {
		p    []api.Port
		want api.Vector
		at   int
	}{
		"no ports":            {nil, mine, -1},
		"one":                 {[]api.Port{heard(1, 10, good)}, led, 0},
		"none up":             {make([]api.Port, 8), mine, -1},
		"the lower ID":        {[]api.Port{heard(3, 10, good), heard(2, 10, good), heard(4, 10, good)}, led, 1},
		"the highest ID":      {[]api.Port{heard(0xffff, 10, good), heard(0x7fff, 10, good)}, led, 1},
		"one ID: the first":   {[]api.Port{heard(9, 10, good), heard(2, 10, good), heard(2, 10, good)}, led, 1},
		"an ID of 0":          {[]api.Port{heard(1, 10, good), heard(0, 10, good)}, led, 1},
		"the better one":      {[]api.Port{heard(1, 11, good), heard(2, 10, good)}, led, 1},
		"costs make alike":    {[]api.Port{heard(2, 9, with(good, func(v *api.Vector) { v.Cost = 6 })), heard(1, 10, good)}, led, 1},
		"the cost goes round": {[]api.Port{heard(1, math.MaxUint32, good), heard(2, 0, good)}, with(good, func(v *api.Vector) { v.Cost = 4 }), 0},
		"its own words":       {[]api.Port{heard(1, 1, with(good, func(v *api.Vector) { v.Bridge = own })), heard(2, 10, good)}, led, 1},
		"at another priority": {[]api.Port{heard(1, 1, with(good, func(v *api.Vector) { v.Bridge = 7<<48 | 5 })), heard(2, 10, good)}, led, 1},
		"another address":     {[]api.Port{heard(1, 10, with(good, func(v *api.Vector) { v.Bridge = own ^ 1<<47 }))}, with(led, func(v *api.Vector) { v.Bridge = own ^ 1<<47 }), 0},
		"a worse root":        {[]api.Port{heard(1, 10, with(good, func(v *api.Vector) { v.Root = own + 1 }))}, mine, -1},
		"its root is itself":  {[]api.Port{heard(1, 10, with(good, func(v *api.Vector) { v.Root = own }))}, mine, -1},
		"itself, round to 0":  {[]api.Port{heard(1, math.MaxUint32, api.Vector{Root: own, Cost: 1, Bridge: own + 1})}, mine, -1},
		"itself, by a better": {[]api.Port{heard(1, 0, api.Vector{Root: own, Bridge: 9, Port: 1})}, api.Vector{Root: own, Bridge: 9, Port: 1}, 0},
		"its own vector":      {[]api.Port{heard(1, 0, mine)}, mine, -1},
	} {
		if v, at := RootOf(api.Tree{ID: own, P: c.p}); v != c.want || at != c.at {
			t.Errorf("%s: %+v of %d, not %+v of %d", name, v, at, c.want, c.at)
		}
	}
}

// P12.1: only what was received counts, and of a port nothing but Is, Pri, Cost and ID.
func TestRootOfAsks(t *testing.T) {
	r := rand.New(rand.NewSource(2))
	for _, is := range iss {
		for range 200 {
			p := anyPort(r)
			p.Is, p.Pri, p.Cost = is, api.Vector{Root: 1, Bridge: 1}, 7
			v, at := RootOf(api.Tree{ID: 5, Root: anyVector(r), P: []api.Port{p}})
			if is == api.InfoReceived && (at != 0 || v != api.Vector{Root: 1, Cost: 7, Bridge: 1}) {
				t.Fatalf("received: %+v of %d", v, at)
			}
			if is != api.InfoReceived && (at != -1 || v != api.Vector{Root: 5, Bridge: 5}) {
				t.Fatalf("%d: %+v of %d", is, v, at)
			}
		}
	}
}

// P12.1: each bit of the own address tells another bridge's word from its own; none of the priority does.
func TestOwnAddress(t *testing.T) {
	const own = 0x8000<<48 | 0x020000000005
	for bit := range 64 {
		p := heard(1, 10, api.Vector{Root: 1, Cost: 20, Bridge: own ^ 1<<bit, Port: 1})
		want, role := 0, api.Root
		if bit >= 48 {
			want, role = -1, api.Backup
		}
		x := api.Tree{ID: own, P: []api.Port{p}}
		if _, at := RootOf(x); at != want {
			t.Errorf("bit %d: root of %d", bit, at)
		}
		if got := Select(x).P[0].Wanted; got != role {
			t.Errorf("bit %d: wanted as %d, not %d", bit, got, role)
		}
	}
}

// P12.2: trees by chance, each rule of them; of what is not named nothing changes.
func TestSelect(t *testing.T) {
	type rule struct {
		is     api.InfoIs
		role   api.Role
		update bool
	}
	seen := map[rule]int{}
	for _, x := range trees(3) {
		y := Select(x)
		same(t, "Select", y, selected(x))
		for _, p := range y.P {
			seen[rule{p.Is, p.Wanted, p.Update}]++
		}
	}
	for _, must := range []rule{
		{api.InfoDisabled, api.Disabled, false}, {api.InfoDisabled, api.Disabled, true},
		{api.InfoAged, api.Designated, true},
		{api.InfoMine, api.Designated, true}, {api.InfoMine, api.Designated, false},
		{api.InfoReceived, api.Root, false}, {api.InfoReceived, api.Designated, true},
		{api.InfoReceived, api.Backup, false}, {api.InfoReceived, api.Alternate, false},
		{-1, api.Disabled, false}, {4, api.Disabled, true}, {math.MaxInt, api.Disabled, false}, {math.MinInt, api.Disabled, true},
	} {
		if seen[must] < 20 {
			t.Errorf("%+v: %d times", must, seen[must])
		}
	}
	if len(seen) != 1+2+4+5*2 { // Aged, Mine, Received, and five others, to be updated or not
		t.Errorf("rules that the document has not: %v", seen)
	}
}

// P12.2: a bridge that is the root tells its own times, no older; another one those of its root's port, a second older, with its own hello.
func TestTimes(t *testing.T) {
	own := api.Times{Age: 0, Max: 20, Hello: 2, Delay: 15}
	for age := range 256 {
		told := api.Times{Age: uint8(age), Max: 40, Hello: 1, Delay: 30}
		p := heard(0x8002, 10, api.Vector{Root: 3, Bridge: 3, Port: 1})
		p.PriT = told
		other := heard(0x8001, 20, api.Vector{Root: 3, Bridge: 3, Port: 2})
		other.PriT = api.Times{Age: 9, Max: 9, Hello: 9, Delay: 9}
		y := Select(api.Tree{ID: 5, T: own, P: []api.Port{other, p}})
		older := uint8(min(age+1, 255))
		if y.RootT != (api.Times{Age: older, Max: 40, Hello: 1, Delay: 30}) || y.RootPort != 0x8002 {
			t.Fatalf("age %d: %+v of %x", age, y.RootT, y.RootPort)
		}
		for _, p := range y.P {
			if p.DesigT != (api.Times{Age: older, Max: 40, Hello: 2, Delay: 30}) {
				t.Fatalf("age %d: %+v", age, p.DesigT)
			}
		}
		own.Age = uint8(age)
		y = Select(api.Tree{ID: 2, T: own, RootPort: 77, RootT: told, P: []api.Port{p}})
		if y.RootT != own || y.RootPort != 0 || y.P[0].DesigT != own || y.Root != (api.Vector{Root: 2, Bridge: 2}) {
			t.Fatalf("its own: %+v of %x", y.RootT, y.RootPort)
		}
	}
}

// P12.2: what a port would tell is of the root, the bridge and the port.
func TestDesig(t *testing.T) {
	x := api.Tree{ID: 5, P: []api.Port{heard(0x8001, 10, api.Vector{Root: 3, Cost: 7, Bridge: 4, Port: 9}), {ID: 0x8002}, {ID: 0xffff, Is: api.InfoMine}}}
	y := Select(x)
	for i, p := range y.P {
		if p.Desig != (api.Vector{Root: 3, Cost: 17, Bridge: 5, Port: x.P[i].ID}) {
			t.Errorf("%d: %+v", i, p.Desig)
		}
	}
	if y.Root != (api.Vector{Root: 3, Cost: 17, Bridge: 4, Port: 9}) {
		t.Errorf("%+v", y.Root)
	}
}

// P12.2: information of one's own is updated where any part of it is another one, and stays to be updated where it was.
func TestMine(t *testing.T) {
	times := api.Times{Max: 20, Hello: 2, Delay: 15}
	has := api.Port{ID: 0x8001, Is: api.InfoMine, Pri: api.Vector{Root: 5, Bridge: 5, Port: 0x8001}, PriT: times}
	for i, change := range []func(p *api.Port){
		func(p *api.Port) {},
		func(p *api.Port) { p.Pri.Root = 4 },
		func(p *api.Port) { p.Pri.Cost++ },
		func(p *api.Port) { p.Pri.Bridge = 1<<48 | 5 },
		func(p *api.Port) { p.Pri.Port++ },
		func(p *api.Port) { p.PriT.Age++ },
		func(p *api.Port) { p.PriT.Max++ },
		func(p *api.Port) { p.PriT.Hello-- },
		func(p *api.Port) { p.PriT.Delay++ },
		func(p *api.Port) { p.Update = true },
	} {
		p := has
		change(&p)
		got := Select(api.Tree{ID: 5, T: times, P: []api.Port{p}}).P[0]
		if got.Wanted != api.Designated || got.Update != (i > 0) || got.Pri != p.Pri || got.PriT != p.PriT {
			t.Errorf("change %d: %+v", i, got)
		}
	}
}

// P12.2, P12.7: what was received is held against what would be told, each part of it, at the edge too.
func TestReceived(t *testing.T) {
	root := heard(0x8001, 10, api.Vector{Root: 3, Cost: 5, Bridge: 4, Port: 0x8001})
	root.Update = true
	const cost = 15 // what the bridge tells: {3, 15, 5, 0x8002}
	for i, c := range []struct {
		v    api.Vector
		want api.Role
	}{
		{api.Vector{Root: 4, Cost: 0, Bridge: 4, Port: 1}, api.Designated},
		{api.Vector{Root: 3, Cost: cost + 1, Bridge: 4, Port: 1}, api.Designated},
		{api.Vector{Root: 3, Cost: cost, Bridge: 6, Port: 1}, api.Designated},
		{api.Vector{Root: 3, Cost: cost, Bridge: 4, Port: 0xffff}, api.Alternate},
		{api.Vector{Root: 3, Cost: cost - 1, Bridge: 6, Port: 1}, api.Alternate},
		{api.Vector{Root: 3, Cost: cost, Bridge: 5, Port: 0x8001}, api.Backup},
		{api.Vector{Root: 3, Cost: cost, Bridge: 5, Port: 0x8002}, api.Backup},
		{api.Vector{Root: 3, Cost: cost, Bridge: 5, Port: 0x8003}, api.Designated},
		{api.Vector{Root: 2, Cost: 0, Bridge: 1<<48 | 5, Port: 0x8003}, api.Backup},
		{api.Vector{Root: 3, Cost: cost, Bridge: 1<<48 | 5, Port: 0x8001}, api.Designated},
	} {
		for _, update := range []bool{false, true} {
			p := heard(0x8002, 100, c.v)
			p.Update = update
			y := Select(api.Tree{ID: 5, P: []api.Port{root, p}})
			if y.P[0].Wanted != api.Root || y.P[0].Update {
				t.Errorf("%d: the root's: %+v", i, y.P[0])
			}
			if y.P[1].Wanted != c.want || y.P[1].Update != (c.want == api.Designated) {
				t.Errorf("%d: %d, not %d; updated: %v", i, y.P[1].Wanted, c.want, y.P[1].Update)
			}
		}
	}
}

// P12.2: the root's port is so, though it would tell what is better than what it has.
func TestRootsPortKnowsBetter(t *testing.T) {
	p := heard(1, math.MaxUint32, api.Vector{Root: 3, Cost: 2, Bridge: 4, Port: 1})
	y := Select(api.Tree{ID: 5, P: []api.Port{p}})
	if p := y.P[0]; p.Wanted != api.Root || p.Update || !better(p.Desig, p.Pri) {
		t.Errorf("%+v", p)
	}
}

// P12.2: of ports that lead alike only one is the root's, be their IDs alike too.
func TestAlikePorts(t *testing.T) {
	p := heard(0x8001, 10, api.Vector{Root: 3, Cost: 5, Bridge: 4, Port: 0x8001})
	y := Select(api.Tree{ID: 5, P: []api.Port{p, p, p}})
	if y.P[0].Wanted != api.Root || y.P[1].Wanted != api.Alternate || y.P[2].Wanted != api.Alternate {
		t.Errorf("%d %d %d", y.P[0].Wanted, y.P[1].Wanted, y.P[2].Wanted)
	}
	y = Select(api.Tree{ID: 5, P: []api.Port{{ID: 9}, heard(0, 10, p.Pri)}}) // an ID of 0 is none of a bridge's ports, but may be handed in
	if y.RootPort != 0 || y.P[1].Wanted != api.Root {
		t.Errorf("%+v", y)
	}
}

// P12.3: trees by chance, begun and not, of which some port asks and none does.
func TestStep(t *testing.T) {
	for n, x := range trees(4) {
		x.Began = n%2 == 0
		asks := false
		for i := range x.P {
			x.P[i].Reselect = n%4 > 1 && x.P[i].Reselect
			asks = asks || x.P[i].Reselect
		}
		want := x
		if !x.Began || asks {
			want = selected(x)
			want.Began = true
		}
		got, ok := Step(x)
		same(t, "Step", got, want)
		if ok != (!x.Began || asks) {
			t.Fatalf("told %v of %+v", ok, x)
		}
		if ok {
			again, ok := Step(got)
			if same(t, "Step again", again, got); ok {
				t.Fatal("selects twice")
			}
		}
	}
}

// P12.3: any one port's asking is enough, and nothing else asks.
func TestStepAsks(t *testing.T) {
	for n := range 11 {
		x := api.Tree{ID: 5, Began: true, P: make([]api.Port, n)}
		got, ok := Step(x)
		if same(t, "nobody asks", got, x); ok {
			t.Fatalf("%d ports, of which none asks", n)
		}
		for i := range n {
			x.P[i].Reselect = true
			if got, ok = Step(x); !ok || got.P[i].Reselect || !got.P[n-1-i].Selected || !got.Began {
				t.Fatalf("port %d of %d: %v, %+v", i, n, ok, got)
			}
			x.P[i].Reselect = false
		}
		x.Began = false
		if got, ok = Step(x); !ok || !got.Began {
			t.Fatalf("%d ports, not begun: %v", n, ok)
		}
	}
	for i := range iss { // whatever else is true of a port
		x := api.Tree{ID: 5, Began: true, P: []api.Port{{Is: iss[i], Up: true, Update: true, GotMsg: true, NewInfo: true}}}
		if got, ok := Step(x); ok || !alike(got, x) {
			t.Errorf("Is %d: %+v", iss[i], got)
		}
	}
}

// P12.3: as it begins no port keeps a role that was wanted of it, be it none.
func TestBegins(t *testing.T) {
	for _, is := range iss {
		for _, role := range []api.Role{math.MinInt, -1, api.Disabled, api.Alternate, api.Backup, api.Root, api.Designated, 5, math.MaxInt} {
			got, ok := Step(api.Tree{ID: 5, P: []api.Port{{ID: 1, Is: is, Wanted: role, Pri: api.Vector{Root: 7, Bridge: 7}}}})
			want := api.Designated
			if is != api.InfoAged && is != api.InfoMine && is != api.InfoReceived {
				want = api.Disabled
			}
			if !ok || got.P[0].Wanted != want {
				t.Errorf("Is %d, wanted as %d: %d, not %d", is, role, got.P[0].Wanted, want)
			}
		}
	}
}

// The document's example.
func TestExample(t *testing.T) {
	x := api.Tree{ID: 5, P: []api.Port{heard(0x8001, 10, api.Vector{Root: 3, Bridge: 3, Port: 0x8001})}}
	y := Select(x)
	if y.Root != (api.Vector{Root: 3, Cost: 10, Bridge: 3, Port: 0x8001}) || y.RootPort != 0x8001 || y.P[0].Wanted != api.Root {
		t.Errorf("%+v", y)
	}
}

// P12.4
func TestOneRoot(t *testing.T) {
	own, led := 0, 0
	for _, x := range trees(5) {
		y := Select(x)
		roots := 0
		for _, p := range y.P {
			if p.Wanted == api.Root {
				roots++
			}
		}
		if y.Root == (api.Vector{Root: x.ID, Bridge: x.ID}) {
			own++
			if roots != 0 || y.RootPort != 0 {
				t.Fatalf("%d roots of %+v", roots, y)
			}
			continue
		}
		if led++; roots != 1 {
			t.Fatalf("%d roots of %+v", roots, y)
		}
	}
	if own < 100 || led < 100 {
		t.Error(own, led)
	}
}

// P12.5
func TestTheBest(t *testing.T) {
	for _, x := range trees(6) {
		y := Select(x)
		if better(api.Vector{Root: x.ID, Bridge: x.ID}, y.Root) {
			t.Fatalf("its own is better than %+v", y.Root)
		}
		for i, v := range candidates(x) {
			if better(v, y.Root) {
				t.Fatalf("that of port %d, %+v, is better than %+v", i, v, y.Root)
			}
		}
	}
}

// P12.6
func TestAgain(t *testing.T) {
	for _, x := range trees(7) {
		y := Select(x)
		same(t, "again", Select(y), y)
		if y, ok := Step(x); ok {
			same(t, "behind a step", Select(y), y)
		}
	}
}

// P12.7
func TestFits(t *testing.T) {
	for _, x := range trees(8) {
		for i, p := range Select(x).P {
			switch p.Is {
			case api.InfoMine, api.InfoAged:
				if p.Wanted != api.Designated {
					t.Fatalf("port %d: %+v", i, p)
				}
			case api.InfoReceived:
				if p.Wanted != api.Root && (p.Wanted == api.Designated) != better(p.Desig, p.Pri) {
					t.Fatalf("port %d: %+v", i, p)
				}
			default:
				if p.Wanted != api.Disabled {
					t.Fatalf("port %d: %+v", i, p)
				}
			}
		}
	}
}

// spoil changes all ports, and what stands behind them in memory.
func spoil(x api.Tree) {
	for i := range x.P {
		x.P[i] = api.Port{ID: 0xdead}
	}
	_ = append(x.P, api.Port{ID: 0xbeef})
}

// What is handed in stays, be there room behind its ports; what is told of it is one's own, where anything was selected.
func TestOwnMemory(t *testing.T) {
	for _, x := range trees(9) {
		room := append(slices.Clone(x.P), api.Port{ID: 0x1234})
		kept := slices.Clone(room)
		handed := x
		handed.P = room[:len(x.P)]
		RootOf(handed)
		first, second := Select(handed), Select(handed)
		step, ok := Step(handed)
		if !slices.Equal(room, kept) {
			t.Fatal("what was handed in has changed")
		}
		spoil(first)
		if ok {
			spoil(step)
		}
		if !slices.Equal(room, kept) {
			t.Fatal("what was handed in is shared")
		}
		spoil(handed)
		same(t, "shares memory", second, selected(x))
	}
}

// The same is answered to the same.
func TestNothingKept(t *testing.T) {
	for _, x := range trees(10) {
		first := Select(x)
		Select(api.Tree{ID: 1, P: make([]api.Port, 2)})
		same(t, "again", Select(x), first)
	}
}

// P12.3, with the layers below: ports that come up are Designated; one that hears of a better root is Root, and is so no more when what it heard is too old.
func TestWithPim(t *testing.T) {
	x, e := rvar.New(api.RstpConf{ID: 0x8000<<48 | 5, T: api.Times{Max: 20, Hello: 2, Delay: 15}, TxHold: 6, Costs: []uint32{10, 20, 30}})
	if e != api.OK {
		t.Fatal(e)
	}
	x = rvar.Up(rvar.Up(x, 0, true), 1, true)
	x = rest(t, x)
	holdRoles(t, "up", x, api.Designated, api.Designated, api.Disabled)
	m := api.BPDU{Kind: api.RST, Role: api.Designated, V: api.Vector{Root: 3, Bridge: 3, Port: 0x8001}, T: api.Times{Max: 20, Hello: 2, Delay: 15}}
	x = rest(t, pim.Hear(x, 1, m))
	holdRoles(t, "heard", x, api.Designated, api.Root, api.Disabled)
	if x.Root != (api.Vector{Root: 3, Cost: 20, Bridge: 3, Port: 0x8001}) || x.RootPort != 0x8002 || x.RootT.Age != 1 {
		t.Errorf("%+v", x)
	}
	if p := x.P[0]; p.Pri != (api.Vector{Root: 3, Cost: 20, Bridge: x.ID, Port: 0x8001}) || p.PriT.Age != 1 {
		t.Errorf("what the other port tells: %+v", p)
	}
	m.V.Port++
	x = rest(t, pim.Hear(x, 0, m))
	holdRoles(t, "nearer", x, api.Root, api.Alternate, api.Disabled)
	for range 6 {
		x = rest(t, rvar.Tick(x))
	}
	holdRoles(t, "aged", x, api.Designated, api.Designated, api.Disabled)
}

// rest leads both machines on, till neither has a step to take.
func rest(t *testing.T, x api.Tree) api.Tree {
	t.Helper()
	for range 50 {
		next, moved := Step(x)
		for i := range next.P {
			then, ok := pim.Step(next, i)
			next, moved = then, moved || ok
		}
		if !moved {
			return next
		}
		x = next
	}
	t.Fatalf("does not rest: %+v", x)
	return x
}

func holdRoles(t *testing.T, what string, x api.Tree, want ...api.Role) {
	t.Helper()
	for i, p := range x.P {
		if p.Wanted != want[i] {
			t.Errorf("%s: port %d is wanted as %d, not %d", what, i, p.Wanted, want[i])
		}
	}
}
