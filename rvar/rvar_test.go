package rvar

import (
	"math"
	"math/rand"
	"reflect"
	"slices"
	"testing"

	"pontage/api"
)

func conf() api.RstpConf {
	return api.RstpConf{ID: 0x8000020000000005, T: api.Times{Max: 20, Hello: 2, Delay: 15}, TxHold: 6, Costs: []uint32{20000, 200000, 7}}
}

// but are settings that may be, but for one thing.
func but(change func(c *api.RstpConf)) api.RstpConf {
	c := conf()
	change(&c)
	return c
}

func begin(t *testing.T, c api.RstpConf) api.Tree {
	t.Helper()
	x, e := New(c)
	if e != api.OK {
		t.Fatalf("%+v: %d", c, e)
	}
	return x
}

// refuse holds that settings may not be.
func refuse(t *testing.T, c api.RstpConf) {
	t.Helper()
	if e := Check(c); e != api.ErrTree {
		t.Errorf("%+v: Check: %d", c, e)
	}
	if x, e := New(c); e != api.ErrTree || !reflect.DeepEqual(x, api.Tree{}) {
		t.Errorf("%+v: New: %+v, %d", c, x, e)
	}
}

// take holds that settings may be, and how a tree of them begins.
func take(t *testing.T, c api.RstpConf) {
	t.Helper()
	if e := Check(c); e != api.OK {
		t.Errorf("%+v: Check: %d", c, e)
	}
	want := api.Tree{ID: c.ID, T: c.T, TxHold: c.TxHold, P: make([]api.Port, len(c.Costs))}
	for i, cost := range c.Costs {
		want.P[i].ID, want.P[i].Cost = uint16(32769+i), cost
	}
	if x, e := New(c); e != api.OK || !reflect.DeepEqual(x, want) {
		t.Errorf("%+v: New: %+v, %d", c, x, e)
	}
}

// P9.1: a bridge's number, its lower 48 bits alone.
func TestCheckID(t *testing.T) {
	for i := range 64 {
		one := but(func(c *api.RstpConf) { c.ID = 1 << i })
		if i < 48 {
			take(t, one)
		} else {
			refuse(t, one)
		}
	}
	for priority := range uint64(1 << 16) {
		if Check(but(func(c *api.RstpConf) { c.ID = priority << 48 })) != api.ErrTree {
			t.Fatalf("priority %x without an address", priority)
		}
	}
	take(t, but(func(c *api.RstpConf) { c.ID = math.MaxUint64 }))
	take(t, but(func(c *api.RstpConf) { c.ID = 1<<48 - 1 }))
}

// P9.1: times, with an age of 0.
func TestCheckTimes(t *testing.T) {
	for _, good := range []api.Times{{Max: 20, Hello: 2, Delay: 15}, {Max: 6, Hello: 1, Delay: 4}, {Max: 40, Hello: 2, Delay: 21}, {Max: 40, Hello: 1, Delay: 30}} {
		take(t, but(func(c *api.RstpConf) { c.T = good }))
		for age := 1; age <= 255; age++ {
			good.Age = uint8(age)
			refuse(t, but(func(c *api.RstpConf) { c.T = good }))
		}
	}
	for _, wrong := range []api.Times{{}, {Max: 5, Hello: 1, Delay: 15}, {Max: 41, Hello: 1, Delay: 30}, {Max: 20, Hello: 0, Delay: 15}, {Max: 20, Hello: 3, Delay: 15}, {Max: 6, Hello: 1, Delay: 3}, {Max: 20, Hello: 1, Delay: 31}, {Max: 20, Hello: 2, Delay: 10}, {Age: 255, Max: 255, Hello: 255, Delay: 255}} {
		refuse(t, but(func(c *api.RstpConf) { c.T = wrong }))
	}
}

// P9.1: all of them.
func TestCheckHold(t *testing.T) {
	for hold := range 256 {
		c := but(func(c *api.RstpConf) { c.TxHold = uint8(hold) })
		if 1 <= hold && hold <= 10 {
			take(t, c)
		} else {
			refuse(t, c)
		}
	}
}

// P9.1: how many costs, and each of them, wherever it stands.
func TestCheckCosts(t *testing.T) {
	for n := range 300 {
		c := but(func(c *api.RstpConf) { c.Costs = slices.Repeat([]uint32{20000}, n) })
		if n == 0 || n > 8 {
			refuse(t, c)
			continue
		}
		for i := range n {
			for _, good := range []uint32{1, 2, 65536, 199999999, 200000000} {
				c.Costs[i] = good
				take(t, c)
			}
			for _, wrong := range []uint32{0, 200000001, math.MaxInt32, 1 << 31, math.MaxUint32} {
				c.Costs[i] = wrong
				refuse(t, c)
			}
			c.Costs[i] = 20000
		}
	}
	refuse(t, but(func(c *api.RstpConf) { c.Costs = nil }))
	refuse(t, but(func(c *api.RstpConf) { c.Costs = make([]uint32, 3) }))
	refuse(t, api.RstpConf{})
}

// P9.1: the greatest settings, and ports' IDs by number; what is handed in stays, and is not kept.
func TestNew(t *testing.T) {
	c := but(func(c *api.RstpConf) { c.Costs = []uint32{8, 7, 6, 5, 4, 3, 2, 1} })
	costs := slices.Clone(c.Costs)
	x := begin(t, c)
	if x.P[0].ID != 0x8001 || x.P[7].ID != 0x8008 || x.P[7].Cost != 1 || x.Began || x.RootPort != 0 {
		t.Errorf("%+v", x)
	}
	for i, p := range x.P {
		if p.Up || p.Is != api.InfoDisabled || p.Role != api.Disabled || p.Pim != api.NoState || p.Prt != api.NoState || p.Tcm != api.NoState || p.Ptx != api.NoState || p.Ppm != api.NoState {
			t.Errorf("port %d: %+v", i, p)
		}
	}
	other := begin(t, c)
	x.P[0].Cost, x.P[1].Up = 99, true
	if !slices.Equal(c.Costs, costs) || other.P[0].Cost != 8 || other.P[1].Up {
		t.Error("shared")
	}
	c.Costs[2] = 77
	if other.P[2].Cost != 6 {
		t.Error("kept")
	}
}

// fill puts something by chance into all that a value is made of. Small bytes come often, so that timers are at their end.
func fill(r *rand.Rand, v reflect.Value) {
	switch v.Kind() {
	case reflect.Struct:
		for i := range v.NumField() {
			fill(r, v.Field(i))
		}
	case reflect.Bool:
		v.SetBool(r.Intn(2) == 0)
	case reflect.Int:
		v.SetInt(int64(r.Intn(9) - 2))
	case reflect.Uint8:
		v.SetUint([...]uint64{0, 1, 2, 255, uint64(r.Intn(256))}[r.Intn(5)])
	case reflect.Uint16, reflect.Uint32, reflect.Uint64:
		v.SetUint(r.Uint64() >> (64 - v.Type().Bits()))
	}
}

// wild is a tree by chance, with that many ports: more than a bridge has, too.
func wild(r *rand.Rand, ports int) api.Tree {
	var x api.Tree
	fill(r, reflect.ValueOf(&x).Elem())
	x.P = make([]api.Port, ports)
	for i := range x.P {
		fill(r, reflect.ValueOf(&x.P[i]).Elem())
	}
	return x
}

// twin is a tree like it, made without the package.
func twin(x api.Tree) api.Tree {
	x.P = slices.Clone(x.P)
	return x
}

// alike is the document's word, said in another way.
func alike(a, b api.Tree) bool {
	if len(a.P) == 0 && len(b.P) == 0 {
		a.P, b.P = nil, nil
	}
	return reflect.DeepEqual(a, b)
}

// places are those of ports, and such as there are not.
func places(ports int) []int {
	list := []int{math.MinInt, -1 << 32, -ports, -1, ports, ports + 1, 1 << 32, math.MaxInt}
	for i := range ports {
		list = append(list, i)
	}
	return list
}

// trees are some by chance, of none to twelve ports, several of each.
func trees(seed int64) []api.Tree {
	r := rand.New(rand.NewSource(seed))
	list := []api.Tree{{}, {P: []api.Port{}}, {P: make([]api.Port, 3)}}
	for ports := range 13 {
		for range 20 {
			list = append(list, wild(r, ports))
		}
	}
	return list
}

// P9.2: that port's Up alone, be it so already; no such port: all as it was.
func TestUp(t *testing.T) {
	for _, x := range trees(1) {
		for _, i := range places(len(x.P)) {
			for _, up := range []bool{true, false} {
				want := twin(x)
				if 0 <= i && i < len(x.P) {
					want.P[i].Up = up
				}
				if got := Up(x, i, up); !alike(got, want) {
					t.Fatalf("Up(%+v, %d, %v): %+v", x, i, up, got)
				}
			}
		}
	}
}

// eight are the fields that run down.
var eight = []string{"FdWhile", "Hello", "Migrate", "Backup", "InfoWhile", "RrWhile", "TcWhile", "TxCount"}

func field(p *api.Port, name string) reflect.Value {
	return reflect.ValueOf(p).Elem().FieldByName(name)
}

// later is the document's word, said in another way: fields by their names, that many seconds at once.
func later(x api.Tree, seconds uint64) api.Tree {
	x = twin(x)
	for i := range x.P {
		for _, name := range eight {
			f := field(&x.P[i], name)
			f.SetUint(f.Uint() - min(f.Uint(), seconds))
		}
	}
	return x
}

// P9.2
func TestTick(t *testing.T) {
	for _, x := range trees(2) {
		if got := Tick(x); !alike(got, later(x, 1)) {
			t.Fatalf("%+v: %+v", x, got)
		}
	}
}

// P9.2: each of the eight, with each value, and all else at 0.
func TestTickEach(t *testing.T) {
	for _, name := range eight {
		for n := range uint64(256) {
			x, want := api.Tree{P: make([]api.Port, 2)}, api.Tree{P: make([]api.Port, 2)}
			field(&x.P[1], name).SetUint(n)
			field(&want.P[1], name).SetUint(max(n, 1) - 1)
			if got := Tick(x); !alike(got, want) {
				t.Fatalf("%s of %d: %+v", name, n, got)
			}
		}
	}
}

// P9.5: also on the way there, and behind it.
func TestRunsOut(t *testing.T) {
	for _, x := range trees(3) {
		now := x
		for second := range uint64(258) {
			if !alike(now, later(x, second)) {
				t.Fatalf("%+v: behind %d ticks: %+v", x, second, now)
			}
			now = Tick(now)
		}
		for i := range now.P {
			for _, name := range eight {
				if field(&now.P[i], name).Uint() != 0 {
					t.Fatalf("%+v: %s of port %d is not 0", x, name, i)
				}
			}
		}
	}
	full := api.Tree{P: []api.Port{{FdWhile: 255, Hello: 255, Migrate: 255, Backup: 255, InfoWhile: 255, RrWhile: 255, TcWhile: 255, TxCount: 255, ID: 0x8001, PriT: api.Times{Age: 255, Max: 255}}}}
	for range 254 {
		full = Tick(full)
	}
	for _, name := range eight {
		if n := field(&full.P[0], name).Uint(); n != 1 {
			t.Errorf("%s: %d behind 254 ticks", name, n)
		}
	}
	if full = Tick(full); !alike(full, api.Tree{P: []api.Port{{ID: 0x8001, PriT: api.Times{Age: 255, Max: 255}}}}) {
		t.Errorf("%+v", full)
	}
}

// P9.2
func TestCopy(t *testing.T) {
	for _, x := range trees(4) {
		if got := Copy(x); !alike(got, x) {
			t.Fatalf("%+v: %+v", x, got)
		}
	}
}

// leaves does something with each field within a value that is no struct itself.
func leaves(v reflect.Value, path string, do func(path string, f reflect.Value)) {
	if v.Kind() == reflect.Struct {
		for i := range v.NumField() {
			leaves(v.Field(i), path+"."+v.Type().Field(i).Name, do)
		}
		return
	}
	do(path, v)
}

// turn gives a field another value: all its bits, or its highest or its lowest one alone.
func turn(f reflect.Value, way int) {
	switch f.Kind() {
	case reflect.Bool:
		f.SetBool(!f.Bool())
	case reflect.Int:
		f.SetInt(f.Int() ^ [...]int64{-1, math.MinInt64, 1}[way])
	case reflect.Uint8, reflect.Uint16, reflect.Uint32, reflect.Uint64:
		bits := f.Type().Bits()
		f.SetUint(f.Uint() ^ [...]uint64{math.MaxUint64 >> (64 - bits), 1 << (bits - 1), 1}[way])
	default:
		panic("a field of another kind: " + f.Kind().String())
	}
}

// differ holds that a tree is not the same, whichever of these fields of the other one is another one: how many there are.
func differ(t *testing.T, x api.Tree, other *api.Tree, path string, v reflect.Value) int {
	t.Helper()
	n := 0
	leaves(v, path, func(path string, f reflect.Value) {
		if f.Kind() == reflect.Slice {
			return
		}
		n++
		for way := range 3 {
			turn(f, way)
			if Same(x, *other) || Same(*other, x) {
				t.Errorf("%s is another one, and they are the same", path)
			}
			turn(f, way)
		}
		if !Same(x, *other) || !Same(*other, x) {
			t.Errorf("%s is as it was, and they are not the same", path)
		}
	})
	return n
}

// P9.3: each field of the tree, and of each of its ports, to the last one of the message within.
func TestSameFields(t *testing.T) {
	r := rand.New(rand.NewSource(5))
	for _, x := range []api.Tree{{P: make([]api.Port, 3)}, wild(r, 1), wild(r, 3), wild(r, 8), wild(r, 9)} {
		other := twin(x)
		if n := differ(t, x, &other, "Tree", reflect.ValueOf(&other).Elem()); n != 16 {
			t.Errorf("%d fields of a tree", n)
		}
		for i := range other.P {
			if n := differ(t, x, &other, "Port", reflect.ValueOf(&other.P[i]).Elem()); n != 77 {
				t.Errorf("%d fields of a port", n)
			}
		}
	}
}

// P9.3: ports are held against each other in order, and all of them; nil and empty lists are the same.
func TestSamePorts(t *testing.T) {
	one, two := api.Port{ID: 1}, api.Port{ID: 2}
	lists := [][]api.Port{{one}, {two}, {one, one}, {one, two}, {two, one}, {one, two, {}}, {{}, one, two}, {{}}, {{}, {}}, make([]api.Port, 8), make([]api.Port, 9), nil}
	for i, a := range lists {
		for k, b := range lists {
			if Same(api.Tree{P: a}, api.Tree{P: b}) != (i == k) {
				t.Errorf("%d and %d: %v", i, k, i != k)
			}
		}
	}
	if !Same(api.Tree{P: nil}, api.Tree{P: []api.Port{}}) || !Same(api.Tree{P: make([]api.Port, 0, 4)}, api.Tree{}) {
		t.Error("nil and empty")
	}
	for _, x := range trees(6) {
		if !Same(x, x) || !Same(x, twin(x)) || !Same(x, Copy(x)) {
			t.Errorf("%+v is not the same as itself", x)
		}
	}
}

// P9.3: of a TCN, too, each field counts.
func TestSameMessage(t *testing.T) {
	a, b := api.Tree{P: make([]api.Port, 1)}, api.Tree{P: make([]api.Port, 1)}
	a.P[0].Msg, b.P[0].Msg = api.BPDU{Kind: api.TCN}, api.BPDU{Kind: api.TCN, TC: true}
	if Same(a, b) {
		t.Error("a message's flag")
	}
}

// states are ports of all that AllSynced asks, with roles that are none, too.
func states() []api.Port {
	var list []api.Port
	for n := range 16 {
		for _, role := range []api.Role{api.Disabled, api.Alternate, api.Backup, api.Root, api.Designated, 5, -1} {
			p := api.Port{Selected: n&1 != 0, Update: n&2 != 0, Synced: n&4 != 0, Role: role, Wanted: role}
			if n&8 != 0 {
				p.Wanted = (role + 1) % 5
			}
			list = append(list, p)
		}
	}
	return list
}

// inStep is the document's word, said in another way: what keeps a port from it is looked for.
func inStep(x api.Tree, i int) bool {
	return !slices.ContainsFunc(x.P, func(p api.Port) bool { return !p.Selected || p.Update || p.Role != p.Wanted }) &&
		!slices.ContainsFunc(others(x, i), func(p api.Port) bool { return !p.Synced && p.Role != api.Root })
}

func others(x api.Tree, i int) []api.Port {
	var list []api.Port
	for at, p := range x.P {
		if at != i {
			list = append(list, p)
		}
	}
	return list
}

// P9.4: all pairs of what two ports may be, as each of them asks, and as one asks that there is not.
func TestAllSynced(t *testing.T) {
	x := api.Tree{P: make([]api.Port, 2)}
	for _, x.P[0] = range states() {
		for _, x.P[1] = range states() {
			for _, i := range places(2) {
				if want := inStep(x, i); AllSynced(x, i) != want {
					t.Fatalf("%+v, %d: %v", x, i, !want)
				}
			}
		}
	}
}

// P9.4: one port that hinders among others that do not, wherever it stands.
func TestAllSyncedOne(t *testing.T) {
	for _, ports := range []int{1, 3, 8, 9} {
		for at := range ports {
			for _, p := range states() {
				x := api.Tree{P: slices.Repeat([]api.Port{{Selected: true, Synced: true}}, ports)}
				x.P[at] = p
				for _, i := range places(ports) {
					settled := p.Selected && !p.Update && p.Role == p.Wanted
					if want := settled && (i == at || p.Synced || p.Role == api.Root); AllSynced(x, i) != want {
						t.Fatalf("%+v at %d of %d, %d asks: %v", p, at, ports, i, !want)
					}
				}
			}
		}
	}
}

// P9.4: the document's example, and edges by name.
func TestAllSyncedEdges(t *testing.T) {
	desig := api.Port{Selected: true, Role: api.Designated, Wanted: api.Designated}
	synced := desig
	synced.Synced = true
	x := api.Tree{P: []api.Port{synced, desig}}
	if AllSynced(x, 0) || !AllSynced(x, 1) {
		t.Error("the example")
	}
	if x.P[0] = desig; AllSynced(x, 0) || AllSynced(x, 1) {
		t.Error("neither is in step")
	}
	if !AllSynced(api.Tree{}, 0) || !AllSynced(api.Tree{}, -1) {
		t.Error("there is no port that is not")
	}
	if AllSynced(begin(t, conf()), 0) {
		t.Error("as it begins, nothing is selected")
	}
	turned := api.Tree{P: []api.Port{{Selected: true, Role: api.Designated, Wanted: api.Root, Synced: true}, synced}}
	if AllSynced(turned, 0) || AllSynced(turned, 1) {
		t.Error("a role that is not yet what was selected")
	}
}

// P9.4: each value, at each place.
func TestReRooted(t *testing.T) {
	for _, ports := range []int{1, 2, 8, 9} {
		for at := range ports {
			for n := range 256 {
				x := api.Tree{P: make([]api.Port, ports)}
				x.P[at].RrWhile = uint8(n)
				for _, i := range places(ports) {
					if want := n == 0 || i == at; ReRooted(x, i) != want {
						t.Fatalf("%d at %d of %d, %d asks: %v", n, at, ports, i, !want)
					}
				}
			}
		}
	}
	if !ReRooted(api.Tree{}, 0) || !ReRooted(api.Tree{}, -1) {
		t.Error("there is no port that was")
	}
	for _, x := range trees(7) {
		for _, i := range places(len(x.P)) {
			want := !slices.ContainsFunc(others(x, i), func(p api.Port) bool { return p.RrWhile != 0 })
			if ReRooted(x, i) != want {
				t.Fatalf("%+v, %d: %v", x, i, !want)
			}
		}
	}
}

// P9.4: of all ports, and nothing else.
func TestAskAll(t *testing.T) {
	for _, x := range trees(8) {
		sync, root := twin(x), twin(x)
		for i := range x.P {
			sync.P[i].Sync, root.P[i].ReRoot = true, true
		}
		if got := SyncAll(x); !alike(got, sync) {
			t.Fatalf("SyncAll(%+v): %+v", x, got)
		}
		if got := ReRootAll(x); !alike(got, root) {
			t.Fatalf("ReRootAll(%+v): %+v", x, got)
		}
	}
}

// P9.4: of DesigT, not of PriT; all that two bytes may hold.
func TestDelay(t *testing.T) {
	for n := range 1 << 16 {
		p := api.Port{DesigT: api.Times{Age: 1, Max: 2, Hello: uint8(n), Delay: uint8(n >> 8)}, PriT: api.Times{Age: 3, Max: 4, Hello: 5, Delay: 6}, FdWhile: 7}
		if Delay(p) != uint8(n>>8) {
			t.Fatalf("%+v: %d", p, Delay(p))
		}
		p.SendRSTP = true
		if Delay(p) != uint8(n) {
			t.Fatalf("%+v: %d", p, Delay(p))
		}
	}
}

// told are all trees that calls tell of one.
func told(x api.Tree, i int) map[string]api.Tree {
	return map[string]api.Tree{
		"Up": Up(x, i, true), "Down": Up(x, i, false), "Up of none": Up(x, len(x.P), true), "Up of -1": Up(x, -1, true),
		"Tick": Tick(x), "Copy": Copy(x), "SyncAll": SyncAll(x), "ReRootAll": ReRootAll(x),
	}
}

// spoil changes all ports, and what stands behind them in memory.
func spoil(x api.Tree) {
	for i := range x.P {
		x.P[i] = api.Port{ID: 0xdead}
	}
	_ = append(x.P, api.Port{ID: 0xbeef})
}

// P9.6: neither with what was handed in, be there room behind it, nor with each other; also where nothing changes.
func TestOwnMemory(t *testing.T) {
	for _, x := range append(trees(9), begin(t, conf())) {
		room := append(slices.Clone(x.P), api.Port{ID: 0x1234}) // the last one stands behind the list that is handed in
		handed := x
		handed.P = room[:len(x.P)]
		kept := slices.Clone(room)
		for _, i := range places(len(x.P)) {
			AllSynced(handed, i)
			ReRooted(handed, i)
			Same(handed, x)
			first, second := told(handed, i), told(handed, i)
			for name, got := range first {
				spoil(got)
				if !slices.Equal(room, kept) {
					t.Fatalf("%s: what was handed in has changed", name)
				}
			}
			again := told(x, i)
			for name, got := range second {
				if !alike(got, again[name]) {
					t.Fatalf("%s: two answers share memory", name)
				}
			}
		}
		before, after := told(handed, 0), told(twin(handed), 0)
		spoil(handed)
		for name, got := range before {
			if !alike(got, after[name]) {
				t.Fatalf("%s: an answer changes with what was handed in", name)
			}
		}
	}
}
