package rstp

import (
	"math"
	"slices"
	"testing"

	"pontage/api"
	"pontage/rvar"
	"pontage/vector"
)

const five = 0x8000<<48 | 5

func conf(ports int) api.RstpConf {
	return api.RstpConf{ID: five, T: usual, TxHold: 6, Costs: slices.Repeat([]uint32{10}, ports)}
}

// ticks lets some seconds go by.
func ticks(t *testing.T, b *Bridge, n int) {
	t.Helper()
	for range n {
		if _, e := b.Tick(); e != api.OK {
			t.Fatal(e)
		}
	}
}

// good is what a call did that is not refused.
func good(t *testing.T) func(d Done, e api.Errno) Done {
	return func(d Done, e api.Errno) Done {
		t.Helper()
		if e != api.OK {
			t.Fatal(e)
		}
		return d
	}
}

// proposal is a message of a root of a lower number than the bridge's own.
func proposal(root uint64) api.BPDU {
	id := 0x8000<<48 | root
	return api.BPDU{Kind: api.RST, Role: api.Designated, Proposal: true, V: api.Vector{Root: id, Bridge: id, Port: 0x8001}, T: usual}
}

// P17.1: a new bridge is one whose tree is rvar's, led to rest: all machines began, no port is up, none does anything; nothing of that is told behind the next event.
func TestNew(t *testing.T) {
	for ports := 1; ports <= 8; ports++ {
		b := made(t, conf(ports))
		x := b.Tree()
		begins, _ := rvar.New(conf(ports))
		if want := toRestOf(begins); !sameTree(x, want.x) || len(want.out) > 0 || len(want.flushed) != ports {
			t.Errorf("%s; %+v", difference(x, want.x), want.done())
		}
		if !x.Began || x.ID != five || x.T != usual || x.TxHold != 6 || x.Root != vector.Own(five) || x.RootPort != 0 || len(x.P) != ports {
			t.Errorf("%+v", x)
		}
		for i, p := range x.P {
			if p.ID != 0x8001+uint16(i) || p.Cost != 10 || p.Up || p.Flush || p.Role != api.Disabled || p.Pim != api.PimDisabled || p.Prt != api.PrtDisabled || p.Tcm != api.TcmInactive || p.Ptx != api.PtxIdle || p.Ppm != api.PpmChecking {
				t.Errorf("%+v", p)
			}
		}
		if d := good(t)(b.Tick()); len(d.Out)+len(d.Flushed) > 0 {
			t.Errorf("%+v", d)
		}
	}
}

// P17.1: settings that may not be: rvar's error, and no bridge.
func TestNewRefuses(t *testing.T) {
	for n, change := range []func(c *api.RstpConf){
		func(c *api.RstpConf) { c.ID = 0 },
		func(c *api.RstpConf) { c.ID = 0x8000 << 48 },
		func(c *api.RstpConf) { c.T = api.Times{} },
		func(c *api.RstpConf) { c.T.Age = 1 },
		func(c *api.RstpConf) { c.T.Max = 41 },
		func(c *api.RstpConf) { c.TxHold = 0 },
		func(c *api.RstpConf) { c.TxHold = 11 },
		func(c *api.RstpConf) { c.Costs = nil },
		func(c *api.RstpConf) { c.Costs = slices.Repeat(c.Costs, 9) },
		func(c *api.RstpConf) { c.Costs[0] = 0 },
		func(c *api.RstpConf) { c.Costs[0] = 200000001 },
		func(c *api.RstpConf) { *c = api.RstpConf{} },
	} {
		c := conf(1)
		change(&c)
		if b, e := New(c); b != nil || e != api.ErrTree {
			t.Errorf("%d: %v, %d", n, b, e)
		}
	}
}

// P17.1: a tree without ports only begins; an empty one likewise.
func TestRunWithoutPorts(t *testing.T) {
	for _, x := range []api.Tree{{}, {P: []api.Port{}}, {ID: 7, T: usual}} {
		y, d := Run(x)
		if !y.Began || y.Root != vector.Own(x.ID) || y.RootT != x.T || len(y.P)+len(d.Out)+len(d.Flushed) > 0 {
			t.Errorf("%+v, %+v", y, d)
		}
	}
}

// P17.1, section Words: ports that are flushed are told rising, each once, though a later one is flushed in an earlier pass, and one of them twice.
func TestFlushedRising(t *testing.T) {
	b := made(t, conf(4))
	x := b.Tree()
	for i := range x.P {
		x.P[i].Flush = i > 0
	}
	x.P[0].Tcm = 77 // it is quiet, which flushes it
	x.P[2].Tcm = 77
	x.P[3].Tcm = api.TcmLearning // quiet behind this step
	y, d := Run(x)
	if !slices.Equal(d.Flushed, []int{0, 1, 2, 3}) || len(d.Out) > 0 {
		t.Errorf("%+v", d)
	}
	for i, p := range y.P {
		if p.Flush {
			t.Errorf("port %d: %+v", i, p)
		}
	}
	late := made(t, conf(3)).Tree()
	late.P[2].Flush = true
	late.P[1].Tcm, late.P[1].TcProp = api.TcmLearning, true // learns first, and is quiet a pass later
	if _, d := Run(late); !slices.Equal(d.Flushed, []int{1, 2}) {
		t.Errorf("%+v", d)
	}
}

// P17.1, section Words: a pass in which nothing happens but that a port is flushed is not the last one: only then may the port learn.
func TestFlushedOnly(t *testing.T) {
	b := made(t, conf(2))
	good(t)(b.Up(0, true))
	ticks(t, b, 60)
	x := b.Tree()
	x.P[0].Flush, x.P[0].Tcm = true, api.TcmInactive
	if y, d := Run(x); y.P[0].Tcm != api.TcmActive || y.P[0].Flush || !slices.Equal(d.Flushed, []int{0}) {
		t.Errorf("%+v, %+v", y.P[0], d)
	}
}

// Example 1. P17.2: a new bridge's port comes up: two RST messages of the role Designated go out, the second of which proposes.
func TestUp(t *testing.T) {
	b := made(t, conf(3))
	d := good(t)(b.Up(1, true))
	if len(d.Out) != 2 {
		t.Fatalf("%+v", d)
	}
	for n, o := range d.Out {
		want := api.Out{Port: 1, M: api.BPDU{Kind: api.RST, Role: api.Designated, Proposal: n == 1, V: api.Vector{Root: five, Bridge: five, Port: 0x8002}, T: usual}}
		if o != want {
			t.Errorf("%d: %+v", n, o)
		}
	}
	if b.Role(1) != api.Designated || b.Role(0) != api.Disabled || b.Role(2) != api.Disabled || b.Learns(1) || b.Forwards(1) {
		t.Errorf("%+v", b.Tree())
	}
}

// P17.2: a port that is up, or down, already: nothing happens.
func TestUpAgain(t *testing.T) {
	b := made(t, conf(2))
	good(t)(b.Up(0, true))
	for i, up := range []bool{true, false} {
		ahead := b.Tree()
		if d := good(t)(b.Up(i, up)); len(d.Out)+len(d.Flushed) > 0 || !sameTree(ahead, b.Tree()) {
			t.Errorf("%+v; %s", d, difference(b.Tree(), ahead))
		}
	}
	on := &Bridge{tree: longWay(2)} // is not at rest, and is not led there
	ahead := on.Tree()
	if d := good(t)(on.Up(0, true)); len(d.Out)+len(d.Flushed) > 0 || !sameTree(ahead, on.Tree()) {
		t.Errorf("%+v; %s", d, difference(on.Tree(), ahead))
	}
}

// P17.2: a port that goes down is Disabled, does nothing any more, and what was learned behind it must go.
func TestDown(t *testing.T) {
	b := made(t, conf(2))
	good(t)(b.Up(0, true))
	good(t)(b.Up(1, true))
	ticks(t, b, 60)
	if !b.Learns(0) || !b.Forwards(0) || !b.Forwards(1) {
		t.Fatalf("%+v", b.Tree())
	}
	d := good(t)(b.Up(0, false))
	if b.Learns(0) || b.Forwards(0) || b.Role(0) != api.Disabled || !b.Forwards(1) || !slices.Equal(d.Flushed, []int{0}) {
		t.Errorf("%+v, %+v", d, b.Tree())
	}
	for _, o := range d.Out {
		if o.Port == 0 {
			t.Errorf("%+v", o)
		}
	}
}

// P17.2: a better root proposes: the port is Root and forwards at once, and agrees; others that do not forward yet wait on; a worse way to that root is an Alternate; when the root port goes down that one is Root at once.
func TestHear(t *testing.T) {
	b := made(t, conf(3))
	for i := range 3 {
		good(t)(b.Up(i, true))
	}
	ticks(t, b, 10)
	d := good(t)(b.Hear(0, proposal(1)))
	if b.Role(0) != api.Root || !b.Forwards(0) || b.Forwards(1) || b.Forwards(2) || b.Role(1) != api.Designated {
		t.Fatalf("%+v", b.Tree())
	}
	if !slices.ContainsFunc(d.Out, func(o api.Out) bool { return o.Port == 0 && o.M.Role == api.Root && o.M.Agreement }) {
		t.Errorf("does not agree: %+v", d.Out)
	}
	if x := b.Tree(); x.RootPort != 0x8001 || x.Root != (api.Vector{Root: 0x8000<<48 | 1, Cost: 10, Bridge: 0x8000<<48 | 1, Port: 0x8001}) || x.RootT.Age != 1 {
		t.Errorf("%+v", x)
	}
	worse := proposal(1)
	worse.V.Cost, worse.V.Bridge, worse.Proposal = 5, 0x8000<<48|3, false
	good(t)(b.Hear(1, worse))
	if b.Role(1) != api.Alternate || b.Learns(1) || b.Forwards(1) {
		t.Errorf("%+v", b.Tree())
	}
	good(t)(b.Up(0, false))
	if b.Role(1) != api.Root || !b.Forwards(1) || b.Role(0) != api.Disabled || b.Tree().RootPort != 0x8002 {
		t.Errorf("%+v", b.Tree())
	}
}

// P17.2: a message of no kind is refused, and nothing changes; any other field may be whatever it is.
func TestHearRefuses(t *testing.T) {
	b := made(t, conf(2))
	good(t)(b.Up(0, true))
	ahead := b.Tree()
	for _, kind := range kinds {
		m := proposal(1)
		m.Kind = kind
		for port := range 2 {
			twin := b.Fork()
			d, e := twin.Hear(port, m)
			if kind >= 1 && kind <= 3 {
				if e != api.OK || port == 1 && !sameTree(ahead, twin.Tree()) || port == 0 && sameTree(ahead, twin.Tree()) {
					t.Errorf("kind %d, port %d: %d, %+v", kind, port, e, d)
				}
				continue
			}
			if e != api.ErrRSTP || !sameDone(d, Done{}) || !sameTree(ahead, twin.Tree()) {
				t.Errorf("kind %d, port %d: %d, %+v", kind, port, e, d)
			}
		}
	}
	odd := api.BPDU{Kind: api.RST, Role: math.MaxInt, T: api.Times{Age: 255, Max: 0, Hello: 0, Delay: 255}}
	if d := good(t)(b.Hear(0, odd)); len(d.Out) > 0 {
		t.Errorf("%+v", d)
	}
	odd.Role = api.Designated
	good(t)(b.Hear(0, odd))
	holds(t, b)
}

// P17.2, P17.3: a port that there is not, which comes ahead of what may not be: nothing changes.
func TestNoSuchPort(t *testing.T) {
	b := made(t, conf(3))
	good(t)(b.Up(0, true))
	ahead := b.Tree()
	for _, port := range []int{math.MinInt, -1, 3, 4, 8, 0x8001, math.MaxInt} {
		for name, call := range map[string]func() (Done, api.Errno){
			"Up":             func() (Done, api.Errno) { return b.Up(port, true) },
			"down":           func() (Done, api.Errno) { return b.Up(port, false) },
			"Hear":           func() (Done, api.Errno) { return b.Hear(port, proposal(1)) },
			"Hear nothing":   func() (Done, api.Errno) { return b.Hear(port, api.BPDU{}) },
			"SetCost":        func() (Done, api.Errno) { return b.SetCost(port, 5) },
			"SetCost, wrong": func() (Done, api.Errno) { return b.SetCost(port, 0) },
		} {
			if d, e := call(); e != api.ErrRange || !sameDone(d, Done{}) || !sameTree(ahead, b.Tree()) {
				t.Errorf("%s %d: %+v, %d", name, port, d, e)
			}
		}
		if b.Learns(port) || b.Forwards(port) || b.Role(port) != api.Disabled {
			t.Errorf("port %d: %v, %v, %v", port, b.Learns(port), b.Forwards(port), b.Role(port))
		}
	}
}

// P17.2: what a port heard ages: behind thrice the hello, and no earlier, the bridge is the root again.
func TestTick(t *testing.T) {
	b := made(t, conf(2))
	good(t)(b.Up(0, true))
	good(t)(b.Hear(0, proposal(1)))
	ticks(t, b, 5)
	if b.Role(0) != api.Root {
		t.Errorf("%+v", b.Tree())
	}
	ticks(t, b, 1)
	if b.Role(0) != api.Designated || b.Tree().Root != vector.Own(five) {
		t.Errorf("%+v", b.Tree())
	}
}

// P17.3: another number: all that the bridge tells has it, at once; one whose address is 0 is refused.
func TestSetID(t *testing.T) {
	b := made(t, conf(2))
	good(t)(b.Up(0, true))
	ticks(t, b, 60)
	ahead := b.Tree()
	for _, id := range []uint64{0, 1 << 48, 1 << 63, 0xffff << 48} {
		if d, e := b.SetID(id); e != api.ErrRSTP || !sameDone(d, Done{}) || !sameTree(ahead, b.Tree()) {
			t.Errorf("%x: %+v, %d", id, d, e)
		}
	}
	for _, id := range []uint64{1, 1 << 47, 0xffff<<48 | 1, math.MaxUint64, five} {
		d := good(t)(b.SetID(id))
		x := b.Tree()
		if x.ID != id || x.Root != vector.Own(id) || x.P[0].Pri != (api.Vector{Root: id, Bridge: id, Port: 0x8001}) {
			t.Errorf("%x: %+v", id, x)
		}
		if len(d.Out) == 0 || d.Out[len(d.Out)-1].M.V.Root != id {
			t.Errorf("%x: %+v", id, d)
		}
		for i, p := range x.P {
			if p.Reselect || !p.Selected {
				t.Errorf("%x: port %d: %+v", id, i, p)
			}
		}
		ticks(t, b, 3)
	}
	good(t)(b.Hear(0, proposal(4)))
	if b.Role(0) != api.Root {
		t.Errorf("%+v", b.Tree())
	}
	good(t)(b.SetID(0x8000<<48 | 3))
	if b.Role(0) != api.Designated || b.Tree().RootPort != 0 {
		t.Errorf("%+v", b.Tree())
	}
}

// P17.3: another cost: the way to the root is another one, at once; what costs may not be is refused.
func TestSetCost(t *testing.T) {
	b := made(t, conf(3))
	for i := range 2 {
		good(t)(b.Up(i, true))
		m := proposal(1)
		m.V.Port += uint16(i)
		good(t)(b.Hear(i, m))
	}
	if b.Role(0) != api.Root || b.Role(1) != api.Alternate {
		t.Fatalf("%+v", b.Tree())
	}
	ahead := b.Tree()
	for _, cost := range []uint32{0, 200000001, math.MaxUint32} {
		if d, e := b.SetCost(0, cost); e != api.ErrRSTP || !sameDone(d, Done{}) || !sameTree(ahead, b.Tree()) {
			t.Errorf("%d: %+v, %d", cost, d, e)
		}
	}
	for _, c := range []struct {
		port int
		cost uint32
		root int
	}{{1, 1, 1}, {0, 1, 0}, {0, 2, 1}, {1, 200000000, 0}, {2, 200000000, 0}, {0, 200000000, 0}, {1, 199999999, 1}} {
		good(t)(b.SetCost(c.port, c.cost))
		x := b.Tree()
		if x.P[c.port].Cost != c.cost || b.Role(c.root) != api.Root || b.Role(1-c.root) != api.Alternate || x.Root.Cost != x.P[c.root].Cost {
			t.Errorf("%+v: %+v", c, x)
		}
	}
}

// A Bridge that is nil, or that nobody made; that comes ahead of all else.
func TestNobodyMade(t *testing.T) {
	for _, b := range []*Bridge{nil, {}, new(Bridge)} {
		for _, port := range []int{-1, 0, 7} {
			for name, call := range map[string]func() (Done, api.Errno){
				"Up":      func() (Done, api.Errno) { return b.Up(port, true) },
				"down":    func() (Done, api.Errno) { return b.Up(port, false) },
				"Hear":    func() (Done, api.Errno) { return b.Hear(port, proposal(1)) },
				"nothing": func() (Done, api.Errno) { return b.Hear(port, api.BPDU{}) },
				"Tick":    func() (Done, api.Errno) { return b.Tick() },
				"SetID":   func() (Done, api.Errno) { return b.SetID(five) },
				"no ID":   func() (Done, api.Errno) { return b.SetID(0) },
				"SetCost": func() (Done, api.Errno) { return b.SetCost(port, 5) },
				"no cost": func() (Done, api.Errno) { return b.SetCost(port, 0) },
			} {
				if d, e := call(); e != api.ErrNil || !sameDone(d, Done{}) {
					t.Errorf("%s: %+v, %d", name, d, e)
				}
			}
			if b.Learns(port) || b.Forwards(port) || b.Role(port) != api.Disabled {
				t.Errorf("port %d", port)
			}
		}
		if x := b.Tree(); !sameTree(x, api.Tree{}) || b.Fork() != nil {
			t.Errorf("%+v, %v", x, b.Fork())
		}
	}
}

// spoil changes all that it is given.
func spoil(x api.Tree, d Done) {
	for i := range x.P {
		x.P[i] = api.Port{ID: 77, Forwarding: true, Role: api.Backup}
	}
	for i := range d.Out {
		d.Out[i] = api.Out{Port: 77}
	}
	for i := range d.Flushed {
		d.Flushed[i] = 77
	}
}

// P17.4: Tree is a copy, Fork another one; what is handed in and out is nothing to a bridge, nor to what else was told.
func TestOwnMemory(t *testing.T) {
	c := conf(2)
	b := made(t, c)
	clear(c.Costs)
	kept := b.Tree()
	if kept.P[0].Cost != 10 {
		t.Error("keeps the settings")
	}
	spoil(b.Tree(), Done{})
	if !sameTree(kept, b.Tree()) {
		t.Error("Tree is not a copy")
	}
	first := good(t)(b.Up(0, true))
	told := Done{slices.Clone(first.Out), slices.Clone(first.Flushed)}
	twin := b.Fork()
	kept = b.Tree()
	spoil(twin.Tree(), good(t)(twin.Hear(0, proposal(1))))
	if !sameTree(kept, b.Tree()) || !sameDone(first, told) || twin.Role(0) != api.Root {
		t.Error("Fork is not another one")
	}
	spoil(api.Tree{}, first)
	if !sameTree(kept, b.Tree()) {
		t.Error("what was told is kept")
	}
	for _, x := range []api.Tree{kept, rvar.Up(kept, 1, true)} { // at rest, and not
		ahead := own(x)
		y, d := Run(x)
		spoil(y, d)
		if !sameTree(x, ahead) {
			t.Error("Run shares memory")
		}
	}
}
