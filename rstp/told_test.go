package rstp

import (
	"fmt"
	"maps"
	"math"
	"math/rand"
	"reflect"
	"slices"
	"testing"

	"pontage/api"
	"pontage/change"
	"pontage/heard"
	"pontage/pim"
	"pontage/prt"
	"pontage/roles"
	"pontage/send"
)

// What the document says, said again without the package: of each layer below one call, in the document's order.

// way is a tree on its way, and what came of that.
type way struct {
	x       api.Tree
	out     []api.Out
	flushed map[int]int
	steps   map[string]int // how many of them were taken, by names
	passes  int
}

func own(x api.Tree) api.Tree {
	x.P = slices.Clone(x.P)
	return x
}

// step takes a step, if there is one.
func (w *way) step(name string, x api.Tree, ok bool) {
	if ok {
		w.x = own(x)
		w.steps[name]++
	}
}

// pass is the document's pass; it tells whether anything changed.
func (w *way) pass() bool {
	clear(w.steps)
	selected, ok := roles.Step(own(w.x))
	w.step("roles", selected, ok)
	for i := 0; i < len(w.x.P); i++ {
		informed, ok := pim.Step(own(w.x), i)
		w.step("pim", informed, ok)
		moved, ok := prt.Step(own(w.x), i)
		w.step("prt", moved, ok)
		port, ok := change.Pst(w.x.P[i])
		states := own(w.x)
		states.P[i] = port
		w.step("pst", states, ok)
		told, ok := change.Tcm(own(w.x), i)
		w.step("tcm", told, ok)
		if w.x.P[i].Flush {
			w.flushed[i]++
			clean := own(w.x)
			clean.P[i].Flush = false
			w.step("flush", clean, true)
		}
		version, ok := send.Ppm(own(w.x), i)
		w.step("ppm", version, ok)
		sent, out, ok := send.Ptx(own(w.x), i)
		w.step("ptx", sent, ok)
		w.out = append(w.out, out...)
	}
	return len(w.steps) > 0
}

// toRestOf leads a tree to rest, as the document says.
func toRestOf(x api.Tree) *way {
	w := &way{x: own(x), flushed: map[int]int{}, steps: map[string]int{}}
	for w.passes < 100 {
		w.passes++
		if !w.pass() {
			break
		}
	}
	return w
}

func (w *way) done() Done {
	return Done{w.out, slices.Sorted(maps.Keys(w.flushed))}
}

// alike tells whether two lists are: none is as good as an empty one.
func alike[T comparable](a, b []T) bool {
	return len(a) == len(b) && slices.Equal(a, b)
}

func sameDone(a, b Done) bool {
	return alike(a.Out, b.Out) && alike(a.Flushed, b.Flushed)
}

func sameTree(a, b api.Tree) bool {
	if !alike(a.P, b.P) {
		return false
	}
	a.P, b.P = nil, nil
	return reflect.DeepEqual(a, b)
}

// difference is where two trees differ first.
func difference(a, b api.Tree) string {
	for i := range min(len(a.P), len(b.P)) {
		if a.P[i] != b.P[i] {
			return fmt.Sprintf("port %d: %+v, but %+v", i, a.P[i], b.P[i])
		}
	}
	return fmt.Sprintf("%+v, but %+v", a, b)
}

// Trees by chance.

// fill gives each part of a value something by chance, small numbers mostly, so that they meet.
func fill(r *rand.Rand, v reflect.Value) {
	switch v.Kind() {
	case reflect.Struct:
		for i := range v.NumField() {
			fill(r, v.Field(i))
		}
	case reflect.Bool:
		v.SetBool(r.Intn(2) == 0)
	case reflect.Int:
		v.SetInt(int64(r.Intn(8) - 1))
	case reflect.Uint8, reflect.Uint16, reflect.Uint32, reflect.Uint64:
		n := uint64(r.Intn(3))
		if r.Intn(3) == 0 {
			n = r.Uint64() >> (64 - v.Type().Bits())
		}
		v.SetUint(n)
	}
}

func any1[T any](r *rand.Rand) T {
	var v T
	fill(r, reflect.ValueOf(&v).Elem())
	return v
}

// anyTree is one by chance, with that many ports.
func anyTree(r *rand.Rand, ports int) api.Tree {
	x := any1[api.Tree](r)
	for range ports {
		x.P = append(x.P, any1[api.Port](r))
	}
	return x
}

// sameRun holds Run of a tree against the document.
func sameRun(t *testing.T, x api.Tree) *way {
	t.Helper()
	kept := own(x)
	want := toRestOf(x)
	got, done := Run(x)
	if !sameTree(got, want.x) {
		t.Fatalf("%+v: %s", kept, difference(got, want.x))
	}
	if !sameDone(done, want.done()) {
		t.Fatalf("%+v: %+v, but %+v", kept, done, want.done())
	}
	if !sameTree(x, kept) {
		t.Fatalf("what was handed in: %s", difference(x, kept))
	}
	return want
}

// P17.1: Run leads any tree to rest, and tells what went out and was flushed; what is at rest already stays, and nothing is told.
func TestRunTold(t *testing.T) {
	r := rand.New(rand.NewSource(17))
	sent, flushed, twice := 0, 0, 0
	for ports := range 13 {
		for range 150 {
			w := sameRun(t, anyTree(r, ports))
			sent, flushed = sent+len(w.out), flushed+len(w.flushed)
			for _, times := range w.flushed {
				twice += times - 1
			}
			if again := sameRun(t, w.x); again.passes != 1 || len(again.out)+len(again.flushed) > 0 {
				t.Fatalf("again: %+v", again)
			}
		}
	}
	if sent < 1000 || flushed < 1000 || twice < 100 {
		t.Errorf("too few: %d messages, %d ports flushed, %d more than once", sent, flushed, twice)
	}
}

// longWay is a tree made by hand whose ports wake one another: each hears, once it is woken, of a root that is better than what the next one has, but too old to last. It needs some passes a port.
func longWay(ports int) api.Tree {
	const bridge = 1 << 40
	x := api.Tree{ID: bridge, T: usual, TxHold: 6}
	for k := range ports {
		left := uint64(10 * (ports - k))
		has := api.Vector{Root: left + 5, Bridge: bridge}
		if k == 0 {
			has.Root = bridge + 1
		}
		heard := api.BPDU{Kind: api.RST, Role: api.Designated, V: api.Vector{Root: left - 10, Bridge: left - 10, Port: 0x8001}, T: api.Times{Age: 20, Max: 20, Hello: 2, Delay: 15}}
		if k == ports-1 {
			heard.V.Root, heard.V.Bridge = 1, 1
		}
		x.P = append(x.P, api.Port{ID: 0x8001 + uint16(k), Cost: 1, Up: true, Pim: api.PimAged, Is: api.InfoReceived, Pri: has, GotMsg: true, Msg: heard})
	}
	return x
}

// P17.1, section Words: there are MaxPasses at most: a tree that needs more is told as it stands behind these, and goes on when it is led again.
func TestMaxPasses(t *testing.T) {
	below, at, past := 0, 0, 0
	for _, ports := range []int{1, 8, 20, 30, 31, 32, 33, 34, 40} {
		w := sameRun(t, longWay(ports))
		rests := atRest(w.x) == ""
		switch {
		case w.passes < 100 && rests:
			below++
		case w.passes == 100 && rests:
			at++
		case w.passes == 100:
			past++
			if more := sameRun(t, w.x); more.passes > 50 || atRest(more.x) != "" {
				t.Errorf("%d ports: %d more passes", ports, more.passes)
			}
		default:
			t.Errorf("%d ports: %d passes, at rest: %v", ports, w.passes, rests)
		}
	}
	if below < 3 || at == 0 || past < 3 {
		t.Errorf("%d below, %d at, %d past", below, at, past)
	}
}

// Bridges, and events by chance.

var (
	usual     = api.Times{Max: 20, Hello: 2, Delay: 15}
	kinds     = []api.MsgKind{math.MinInt, -1, api.NoMsg, api.Config, api.TCN, api.RST, 4, math.MaxInt}
	noPlaces  = []int{math.MinInt, -8, -1}
	someCosts = []uint32{0, 1, 2, 10, 20000, 199999999, 200000000, 200000001, math.MaxUint32}
	someIDs   = []uint64{0, 1, 2, 5, 1 << 47, 1 << 48, 1<<48 | 5, 0x8000 << 48, 0x8000<<48 | 3, 0x8000<<48 | 5, 0xffff << 48, math.MaxUint64}
)

func one[T any](r *rand.Rand, list []T) T {
	return list[r.Intn(len(list))]
}

// anyConf are settings by chance that may be.
func anyConf(r *rand.Rand) api.RstpConf {
	for {
		c := api.RstpConf{
			ID:     uint64(r.Intn(3)+7)<<60 | uint64(r.Intn(9)+1),
			T:      api.Times{Max: uint8(6 + r.Intn(35)), Hello: uint8(1 + r.Intn(2)), Delay: uint8(4 + r.Intn(27))},
			TxHold: uint8(1 + r.Intn(10)),
		}
		for range 1 + r.Intn(8) {
			c.Costs = append(c.Costs, uint32(1+r.Intn(40)))
		}
		d, h, m := int(c.T.Delay), int(c.T.Hello), int(c.T.Max)
		if 2*(d-1) >= m && m >= 2*(h+1) {
			return c
		}
	}
}

func made(t *testing.T, c api.RstpConf) *Bridge {
	t.Helper()
	b, e := New(c)
	if e != api.OK || b == nil {
		t.Fatal(c, e)
	}
	return b
}

// event is what may happen to a bridge: how it is called, and what the document says that it does to the tree.
type event struct {
	name string
	call func(b *Bridge) (Done, api.Errno)
	says func(x api.Tree) (api.Tree, bool, api.Errno) // the tree, must it be led
}

func hasPort(x api.Tree, i int) bool {
	return i >= 0 && i < len(x.P)
}

func upEvent(i int, up bool) event {
	return event{
		fmt.Sprint("Up ", i, up),
		func(b *Bridge) (Done, api.Errno) { return b.Up(i, up) },
		func(x api.Tree) (api.Tree, bool, api.Errno) {
			if !hasPort(x, i) {
				return x, false, 5
			}
			leads := x.P[i].Up != up
			x.P[i].Up = up
			return x, leads, 0
		},
	}
}

func hearEvent(i int, m api.BPDU) event {
	return event{
		fmt.Sprintf("Hear %d: %+v", i, m),
		func(b *Bridge) (Done, api.Errno) { return b.Hear(i, m) },
		func(x api.Tree) (api.Tree, bool, api.Errno) {
			if !hasPort(x, i) {
				return x, false, 5
			}
			if m.Kind < 1 || m.Kind > 3 {
				return x, false, 170
			}
			x.P[i] = heard.Take(x.P[i], m)
			return x, true, 0
		},
	}
}

func tickEvent() event {
	return event{
		"Tick",
		func(b *Bridge) (Done, api.Errno) { return b.Tick() },
		func(x api.Tree) (api.Tree, bool, api.Errno) {
			for i := range x.P {
				v := reflect.ValueOf(&x.P[i]).Elem()
				for _, f := range []string{"FdWhile", "Hello", "Migrate", "Backup", "InfoWhile", "RrWhile", "TcWhile", "TxCount"} {
					if n := v.FieldByName(f).Uint(); n > 0 {
						v.FieldByName(f).SetUint(n - 1)
					}
				}
			}
			return x, true, 0
		},
	}
}

func anew(x api.Tree) {
	for i := range x.P {
		x.P[i].Selected = false
		x.P[i].Reselect = true
	}
}

func idEvent(id uint64) event {
	return event{
		fmt.Sprintf("SetID %x", id),
		func(b *Bridge) (Done, api.Errno) { return b.SetID(id) },
		func(x api.Tree) (api.Tree, bool, api.Errno) {
			if id<<16 == 0 {
				return x, false, 170
			}
			x.ID = id
			anew(x)
			return x, true, 0
		},
	}
}

func costEvent(i int, cost uint32) event {
	return event{
		fmt.Sprint("SetCost ", i, " ", cost),
		func(b *Bridge) (Done, api.Errno) { return b.SetCost(i, cost) },
		func(x api.Tree) (api.Tree, bool, api.Errno) {
			if !hasPort(x, i) {
				return x, false, 5
			}
			if cost == 0 || cost > 200e6 {
				return x, false, 170
			}
			x.P[i].Cost = cost
			anew(x)
			return x, true, 0
		},
	}
}

// anyMessage is one by chance, near to what the bridge knows.
func anyMessage(r *rand.Rand, x api.Tree, i int) api.BPDU {
	m := any1[api.BPDU](r)
	m.Kind = one(r, kinds)
	if r.Intn(3) > 0 {
		m.Kind = 3
	}
	if r.Intn(4) > 0 {
		m.Role = 4
	}
	if r.Intn(4) > 0 {
		m.V = api.Vector{Root: one(r, someIDs), Cost: uint32(r.Intn(50)), Bridge: one(r, someIDs), Port: 0x8001 + uint16(r.Intn(3))}
		m.T = api.Times{Age: uint8(r.Intn(3)), Max: 20, Hello: uint8(1 + r.Intn(2)), Delay: 15}
	}
	if hasPort(x, i) && r.Intn(3) == 0 {
		m.V, m.T = x.P[i].Pri, x.P[i].PriT
	}
	if hasPort(x, i) && r.Intn(8) == 0 {
		m.V, m.T = x.P[i].Desig, x.P[i].DesigT
	}
	return m
}

func anyEvent(r *rand.Rand, x api.Tree) event {
	i := r.Intn(len(x.P))
	if r.Intn(20) == 0 {
		i = one(r, append(noPlaces, len(x.P), len(x.P)+1, math.MaxInt))
	}
	switch r.Intn(16) {
	case 0, 1, 2:
		return upEvent(i, r.Intn(4) > 0)
	case 3, 4, 5, 6, 7:
		return hearEvent(i, anyMessage(r, x, i))
	case 8:
		return idEvent(one(r, someIDs))
	case 9:
		return costEvent(i, one(r, someCosts))
	}
	return tickEvent()
}

// atRest tells what step of a tree there is to take; "" of none.
func atRest(x api.Tree) string {
	w := &way{x: own(x), flushed: map[int]int{}, steps: map[string]int{}}
	if w.pass() {
		return fmt.Sprint(w.steps)
	}
	return ""
}

// holds is what follows behind each event.
func holds(t *testing.T, b *Bridge) {
	t.Helper()
	x := b.Tree()
	if steps := atRest(x); steps != "" {
		t.Fatalf("is not at rest: %s: %+v", steps, x)
	}
	for i, p := range x.P {
		if b.Learns(i) != p.Learning || b.Forwards(i) != p.Forwarding || b.Role(i) != p.Role {
			t.Fatalf("port %d: %v, %v, %v, but %+v", i, b.Learns(i), b.Forwards(i), b.Role(i), p)
		}
		place := p.Role == api.Root || p.Role == api.Designated
		if p.Forwarding && (!p.Learning || !place && p.Selected || !p.Up) {
			t.Fatalf("port %d forwards: %+v", i, p)
		}
	}
}

// happen lets an event happen to a bridge, and holds it against the document.
func happen(t *testing.T, b *Bridge, ev event) (Done, api.Errno) {
	t.Helper()
	want, leads, e := ev.says(b.Tree())
	var told Done
	if leads {
		w := toRestOf(want)
		if w.passes == 100 {
			t.Fatalf("%s: too many passes", ev.name)
		}
		want, told = w.x, w.done()
	}
	got, errno := ev.call(b)
	if errno != e || !sameDone(got, told) {
		t.Fatalf("%s: %+v, %d, but %+v, %d", ev.name, got, errno, told, e)
	}
	if x := b.Tree(); !sameTree(x, want) {
		t.Fatalf("%s: %s", ev.name, difference(x, want))
	}
	return got, errno
}

// P17.1 to P17.5: bridges to which things happen by chance, good and bad: all is as the document says, and behind each event all machines rest.
func TestEventsTold(t *testing.T) {
	r := rand.New(rand.NewSource(5))
	sent, flushed, errs := 0, 0, map[api.Errno]int{}
	forwards := map[api.Role]int{}
	for range 45 {
		c := anyConf(r)
		b := made(t, c)
		for range 250 {
			done, e := happen(t, b, anyEvent(r, b.Tree()))
			sent, flushed = sent+len(done.Out), flushed+len(done.Flushed)
			errs[e]++
			holds(t, b)
			for i := range c.Costs {
				if b.Forwards(i) {
					forwards[b.Role(i)]++
				}
			}
		}
	}
	if sent < 2000 || flushed < 200 || len(errs) != 3 || forwards[api.Root] < 500 || forwards[api.Designated] < 500 {
		t.Errorf("too few: %d messages, %d flushed, errors %v, forward %v", sent, flushed, errs, forwards)
	}
}

// P17.8: the same events make the same, at a bridge made anew, and at one that was forked on the way; whatever happens to one of them is nothing to the others.
func TestAlike(t *testing.T) {
	r := rand.New(rand.NewSource(8))
	for range 30 {
		c := anyConf(r)
		b, twin := made(t, c), made(t, c)
		var events []event
		for range 120 {
			ev := anyEvent(r, b.Tree())
			events = append(events, ev)
			d, e := ev.call(b)
			other := twin
			if r.Intn(10) == 0 { // from here on another one goes this way, and the one that was forked another way
				twin = twin.Fork()
				for range 5 {
					anyEvent(r, other.Tree()).call(other)
				}
			}
			d2, e2 := ev.call(twin)
			if e != e2 || !sameDone(d, d2) || !sameTree(b.Tree(), twin.Tree()) {
				t.Fatalf("%s: %+v, %d, but %+v, %d; %s", ev.name, d, e, d2, e2, difference(b.Tree(), twin.Tree()))
			}
		}
		last := made(t, c)
		for _, ev := range events {
			ev.call(last)
		}
		if !sameTree(b.Tree(), last.Tree()) {
			t.Fatal(difference(b.Tree(), last.Tree()))
		}
	}
}
