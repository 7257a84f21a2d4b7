package bridge

import (
	"bytes"
	"fmt"
	"slices"
	"testing"

	"pontage/api"
	"pontage/bpdu"
	"pontage/rstp"
	"pontage/rvar"
)

// beside is a bridge, and the spanning tree alone of one of the same settings, led beside it.
type beside struct {
	t            *testing.T
	b            *Bridge
	r            *rstp.Bridge
	out, flushed map[string]int // how many messages went out, how many ports were flushed, by events
}

func both(t *testing.T, c api.BridgeConf) *beside {
	t.Helper()
	r, e := rstp.New(c.Rstp)
	if e != api.OK {
		t.Fatal(e)
	}
	return &beside{t, made(t, c), r, map[string]int{}, map[string]int{}}
}

// frames are what must be told of an event of the spanning tree alone.
func (x *beside) frames(d rstp.Done) []api.Copy {
	var l []api.Copy
	for _, o := range d.Out {
		f, e := bpdu.Encode(x.b.Prov().Own, o.M)
		if e != api.OK {
			x.t.Fatal(e)
		}
		l = append(l, api.Copy{Port: o.Port, Bytes: f})
	}
	return l
}

func sameCopies(a, b []api.Copy) bool {
	return slices.EqualFunc(a, b, func(x, y api.Copy) bool { return x.Port == y.Port && bytes.Equal(x.Bytes, y.Bytes) })
}

// event lets one thing happen to both, and holds what the bridge told, its tree, and what it still knows of the backbone against the spanning tree alone; ahead of it somebody is learned behind each port.
func (x *beside) event(what string, one func() ([]api.Copy, api.Errno), other func() (rstp.Done, api.Errno)) {
	x.t.Helper()
	kinds := x.b.Prov().Kinds
	for port := range kinds {
		x.b.backbone.Learn(10, far(byte(10+port)), port, x.b.clock)
	}
	l, e := one()
	d, e2 := other()
	if want := x.frames(d); e != e2 || !sameCopies(l, want) {
		x.t.Errorf("%s: %v %d, and not %v %d", what, l, e, want, e2)
	}
	if !rvar.Same(x.b.Tree(), x.r.Tree()) {
		x.t.Errorf("%s: %+v, and not %+v", what, x.b.Tree(), x.r.Tree())
	}
	for port := range kinds {
		flushed := slices.Contains(d.Flushed, port)
		if _, found := x.b.backbone.Find(10, far(byte(10+port))); found == flushed {
			x.t.Errorf("%s: port %d: found %v, flushed %v", what, port, found, flushed)
		}
		if flushed {
			x.flushed[what]++
		}
	}
	x.out[what] += len(l)
}

func rst(root, from uint64, cost uint32) api.BPDU {
	return api.BPDU{Kind: api.RST, Role: api.Designated, V: api.Vector{Root: 0x8000<<48 | root, Cost: cost, Bridge: 0x8000<<48 | from, Port: 0x8002}, T: api.Times{Max: 6, Hello: 2, Delay: 4}}
}

// said is a message as a frame from another bridge.
func said(m api.BPDU) []byte {
	b, e := bpdu.Encode(far(2), m)
	if e != api.OK {
		panic(e)
	}
	return b
}

// P23.4, P23.5: events do to the tree what they do to the spanning tree alone; what goes out is told, in order, in frames from Own; and flushed ports are flushed.
func TestEvents(t *testing.T) {
	x := both(t, conf("bcbb"))
	up := func(port int, up bool) {
		x.event("up", func() ([]api.Copy, api.Errno) { return x.b.Up(port, up) }, func() (rstp.Done, api.Errno) { return x.r.Up(port, up) })
	}
	seconds := func(n int) {
		for range n {
			x.event("tick", x.b.Tick, x.r.Tick)
		}
	}
	hear := func(port int, m api.BPDU) {
		x.event("message", func() ([]api.Copy, api.Errno) { return x.b.Message(port, said(m)) }, func() (rstp.Done, api.Errno) { return x.r.Hear(port, m) })
	}
	number := func(id uint64) {
		x.event("number", func() ([]api.Copy, api.Errno) { return x.b.Do(api.Command{Kind: api.SetID, ID: id, Port: 77}) }, func() (rstp.Done, api.Errno) { return x.r.SetID(id) })
	}
	cost := func(port int, cost uint32) {
		x.event("cost", func() ([]api.Copy, api.Errno) {
			return x.b.Do(api.Command{Kind: api.SetCost, Port: port, Cost: cost})
		}, func() (rstp.Done, api.Errno) { return x.r.SetCost(port, cost) })
	}
	for _, port := range []int{0, 2, 3, 2} {
		up(port, true)
	}
	seconds(20)
	proposal := rst(1, 2, 5)
	proposal.Proposal = true
	for _, m := range []api.BPDU{rst(9, 9, 0), proposal, rst(1, 1, 0), {Kind: api.TCN}, {Kind: api.Config, TC: true, V: proposal.V, T: proposal.T}} {
		for _, port := range []int{3, 0, 2} {
			hear(port, m)
		}
		seconds(3)
	}
	seconds(20)
	// two ways to the root: with costs, and failures, now the one is better, now the other
	for range 5 {
		for i, c := range []uint32{1, 200000000, 10} {
			hear(0, rst(1, 1, 0))
			hear(3, rst(1, 1, 0))
			cost(3, c)
			seconds(1)
			number([]uint64{1, 7, 0x9000<<48 | 5}[i])
			seconds(3)
		}
		hear(0, rst(1, 1, 0))
		hear(3, rst(1, 1, 0))
		for _, port := range []int{0, 3} {
			up(port, false)
			seconds(2)
			up(port, true)
			seconds(2)
		}
	}
	for _, what := range []string{"up", "tick", "message", "cost", "number"} {
		if x.out[what] < 2 || x.flushed[what] < 2 && what != "number" { // another number stops no port at once
			t.Error(what, "told", x.out[what], "flushed", x.flushed[what])
		}
	}
	if n := x.b.Counts(); slices.Max(n) != 0 || x.b.Tree().P[1].Up {
		t.Error(n)
	}
}

// P23.4: a message that tells of a change lets what was learned behind other ports go, but not what is static, nor what is known of customers.
func TestFlushed(t *testing.T) {
	b := ready(t, conf("cbbb"))
	learn := func() {
		for port := 1; port <= 3; port++ {
			b.Backbone(port, hiding(far(1), far(byte(10+port)), 10, 5000, near(1), near(byte(port))))
		}
	}
	ports := func() []int {
		var l []int
		for _, n := range b.Entries() {
			l = append(l, n.Port)
		}
		return l
	}
	learn()
	ordered(t, b, static(10, far(20), 1), static(20, far(20), 3))
	if l := ports(); !slices.Equal(l, []int{1, 2, 3, 1, 3}) {
		t.Error(l)
	}
	change := rst(5, 9, 10) // of a bridge whose way to this one it is
	change.Role, change.TC = api.Root, true
	if _, e := b.Message(2, said(change)); e != api.OK {
		t.Error(e)
	}
	if l := ports(); !slices.Equal(l, []int{2, 1, 3}) || len(b.Known()) != 3 {
		t.Error(l, b.Known())
	}
	learn()
	b.Up(3, false)
	if l := ports(); slices.Contains(l[:2], 3) || len(l) != 4 {
		t.Error(l)
	}
}

// P23.4: a message at a port that is not Up: PortDown is counted, no more; one whose bytes are none: BadFrame; no error of either.
func TestMessageRefused(t *testing.T) {
	b := ready(t, conf("cbb"))
	b.Up(2, false)
	good := said(rst(1, 1, 0))
	refused := func(what string, port int, x []byte, why api.Why) {
		t.Helper()
		ahead := uncounted(b)
		counts(t, b, what, func() {
			if l, e := b.Message(port, x); l != nil || e != api.OK {
				t.Error(what, l, e)
			}
		}, why)
		if behind := uncounted(b); behind != ahead {
			t.Error(what, behind)
		}
	}
	refused("down", 2, good, api.PortDown)
	refused("down, nothing", 2, nil, api.PortDown)
	refused("nothing", 1, nil, api.BadFrame)
	refused("short", 1, good[:len(good)-1], api.BadFrame)
	refused("long", 1, append(slices.Clone(good), 0), api.BadFrame)
	refused("far too long", 1, make([]byte, 3000), api.BadFrame)
	refused("of another version", 1, slices.Replace(slices.Clone(good), 19, 20, 3), api.BadFrame)
	refused("from a group", 1, slices.Replace(slices.Clone(good), 6, 7, 1), api.BadFrame)
	refused("to another", 1, slices.Replace(slices.Clone(good), 5, 6, 1), api.BadFrame)
	refused("data", 1, hiding(all, far(7), 10, 5000, near(1), near(2)), api.BadFrame)
	counts(t, b, "good", func() {
		if l, e := b.Message(1, good); e != api.OK || b.Tree().Root.Root != 0x8000<<48|1 {
			t.Error(l, e)
		}
	})
}

// P23.4: a port that goes down lets what waits there go, and nothing else that waits; one that is up, or comes up, does not.
func TestUpClears(t *testing.T) {
	b := ready(t, conf("cbb"))
	waiting := func(want ...int) {
		t.Helper()
		for port, n := range want {
			if b.Waiting(port) != n {
				t.Error(port, b.Waiting(port), want)
			}
		}
	}
	b.Customer(0, simple(all, near(1), 100))
	b.Customer(0, simple(all, near(1), 100))
	b.Backbone(1, hiding(all, far(7), 10, 5000, near(1), near(2)))
	waiting(1, 2, 3)
	counts(t, b, "up and down", func() {
		b.Up(2, true)
		waiting(1, 2, 3)
		b.Up(2, false)
		waiting(1, 2, 0)
		b.Up(2, false)
		waiting(1, 2, 0)
		b.Up(2, true)
		waiting(1, 2, 0)
		b.Up(1, false)
		waiting(1, 0, 0)
	})
}

// P23.4: the clock is one more with each tick, up to MaxTick; there Tick is refused, and nothing changes.
func TestClock(t *testing.T) {
	b := ready(t, conf("cb"))
	if b.Clock() != readyAt {
		t.Error(b.Clock())
	}
	b.clock = 1<<40 - 2
	for range 2 {
		b.Customer(0, simple(all, near(1), 100))
		b.Next(1)
		if _, e := b.Tick(); e != api.OK {
			t.Error(e)
		}
	}
	if b.Clock() != 1<<40 || len(b.Known()) != 1 || b.Known()[0].Seen != 1<<40-1 {
		t.Error(b.Clock(), b.Known())
	}
	ahead := told(b)
	for range 2 {
		if l, e := b.Tick(); l != nil || e != api.ErrRange {
			t.Error(l, e)
		}
	}
	if behind := told(b); behind != ahead {
		t.Error(behind)
	}
	counts(t, b, "at the end", func() { b.Customer(0, simple(all, near(1), 100)) }, api.InCustomer, api.OutBackbone)
	if b.Known()[0].Seen != 1<<40 {
		t.Error(b.Known())
	}
}

// P23.4: a tick lets go what is old enough by the new clock: of the backbone's entries those whose age is at it, of customers' those whose age is past it.
func TestAges(t *testing.T) {
	c := conf("cb")
	c.Age = 3
	b := ready(t, c)
	b.Backbone(1, hiding(far(1), far(7), 10, 5000, near(1), near(2)))
	b.Customer(0, simple(all, near(1), 100))
	ordered(t, b, static(10, far(8), 1))
	for i, want := range [][2]int{{2, 2}, {2, 2}, {1, 2}, {1, 0}, {1, 0}} {
		ticks(t, b, 1)
		if len(b.Entries()) != want[0] || len(b.Known()) != want[1] {
			t.Error(i, b.Entries(), b.Known())
		}
	}
}

// P23.5: what is provisioned is what prov.Do tells; behind DelCarry nothing of the service is known, behind DelMember nothing of the VLAN.
func TestProvisioned(t *testing.T) {
	b := ready(t, conf("cbb"))
	ordered(t, b, carry(5001, 10), attach(0, 500, 5001), member(20, 1), static(20, far(9), 1), static(10, far(9), 2))
	b.Backbone(1, hiding(far(1), far(7), 20, 5001, near(1), near(3)))
	b.Backbone(1, hiding(far(1), far(7), 10, 5001, near(1), near(2)))
	b.Customer(0, simple(all, near(1), 100))
	sees := func(known, entries int) {
		t.Helper()
		if len(b.Known()) != known || len(b.Entries()) != entries {
			t.Error(b.Known(), b.Entries())
		}
	}
	sees(2, 4)
	want := api.Prov{Own: far(1), Kinds: conf("cbb").Kinds, Maps: []api.Map{{Port: 0, VID: 100, ISID: 5000}, {Port: 0, VID: 500, ISID: 5001}}, Carries: []api.Carry{{ISID: 5000, VID: 10}, {ISID: 5001, VID: 10}}, Members: []api.Member{{VID: 10, Ports: []int{1, 2}}, {VID: 20, Ports: []int{1}}}}
	is := func() {
		t.Helper()
		if p := b.Prov(); p.Own != want.Own || !slices.Equal(p.Kinds, want.Kinds) || !slices.Equal(p.Maps, want.Maps) || !slices.Equal(p.Carries, want.Carries) || !slices.EqualFunc(p.Members, want.Members, func(a, b api.Member) bool { return a.VID == b.VID && slices.Equal(a.Ports, b.Ports) }) {
			t.Errorf("%+v, and not %+v", p, want)
		}
	}
	is()
	ordered(t, b, api.Command{Kind: api.DelMap, Map: want.Maps[1]})
	want.Maps = want.Maps[:1]
	is()
	sees(2, 4)
	ordered(t, b, api.Command{Kind: api.DelCarry, Carry: want.Carries[1]})
	want.Carries = want.Carries[:1]
	is()
	sees(1, 4)
	ordered(t, b, member(20, 2))
	want.Members[1].Ports[0] = 2
	is()
	sees(1, 4)
	ordered(t, b, api.Command{Kind: api.DelMember, Member: api.Member{VID: 20, Ports: []int{7}}})
	want.Members = want.Members[:1]
	is()
	sees(1, 2)
	for _, n := range b.Entries() {
		if n.VID != 10 {
			t.Error(n)
		}
	}
}

// P23.5, P23.10: each error of each command; with it nothing changes, and nothing is told.
func TestRefused(t *testing.T) {
	c := conf("cbb")
	c.Entries = 2
	b := ready(t, c)
	ordered(t, b, static(10, far(9), 1), static(10, far(10), 2), member(20, 1))
	b.Customer(0, simple(all, near(1), 100))
	cost := func(port int, cost uint32) api.Command {
		return api.Command{Kind: api.SetCost, Port: port, Cost: cost}
	}
	unstatic := func(vid int, m api.MAC) api.Command {
		return api.Command{Kind: api.DelStatic, Entry: api.Entry{VID: vid, M: m, Port: 1, Static: true}}
	}
	for what, x := range map[string]struct {
		c api.Command
		e api.Errno
	}{
		"no kind":                    {api.Command{}, 1},
		"kind 12":                    {api.Command{Kind: 12}, api.ErrArg},
		"kind -1":                    {api.Command{Kind: -1}, api.ErrArg},
		"map: VLAN 0":                {attach(0, 0, 5000), api.ErrArg},
		"map: no port":               {attach(3, 101, 5000), api.ErrRange},
		"map: the backbone's":        {attach(1, 101, 5000), api.ErrKind},
		"map: it is there":           {attach(0, 100, 5000), api.ErrThere},
		"map: not carried":           {attach(0, 101, 5001), api.ErrMissing},
		"no such map":                {api.Command{Kind: api.DelMap, Map: api.Map{Port: 0, VID: 101, ISID: 5000}}, api.ErrMissing},
		"carry: it has one":          {carry(5000, 20), api.ErrThere},
		"carry: no VLAN":             {carry(5001, 30), api.ErrMissing},
		"no such carry":              {api.Command{Kind: api.DelCarry, Carry: api.Carry{ISID: 5000, VID: 20}}, api.ErrMissing},
		"carry: used":                {api.Command{Kind: api.DelCarry, Carry: api.Carry{ISID: 5000, VID: 10}}, api.ErrUse},
		"member: do not rise":        {member(10, 2, 1), api.ErrArg},
		"member: no port":            {member(10, 3), api.ErrRange},
		"member: a customer's":       {member(10, 0), api.ErrKind},
		"no such member":             {api.Command{Kind: api.DelMember, Member: api.Member{VID: 30}}, api.ErrMissing},
		"member: used":               {api.Command{Kind: api.DelMember, Member: api.Member{VID: 10}}, api.ErrUse},
		"static: no port":            {static(0, group, 3), api.ErrRange},
		"static: below all ports":    {static(10, far(9), -1), api.ErrRange},
		"static: a customer's":       {static(0, group, 0), api.ErrKind},
		"static: VLAN 0":             {static(0, far(9), 1), api.ErrFDB},
		"static: VLAN 4095":          {static(4095, far(9), 1), api.ErrFDB},
		"static: a group":            {static(10, group, 1), api.ErrFDB},
		"static: full":               {static(10, far(11), 1), api.ErrFull},
		"no such static":             {unstatic(10, far(11)), api.ErrNone},
		"none of that VLAN":          {unstatic(20, far(9)), api.ErrNone},
		"no ID":                      {api.Command{Kind: api.SetID, ID: 0x9000 << 48}, api.ErrRSTP},
		"cost: no port":              {cost(3, 0), api.ErrRange},
		"cost: below all ports":      {cost(-1, 10), api.ErrRange},
		"cost: a customer's":         {cost(0, 0), api.ErrKind},
		"cost: a customer's, a good": {cost(0, 10), api.ErrKind},
		"cost: 0":                    {cost(1, 0), api.ErrRSTP},
		"cost: 200000001":            {cost(2, 200000001), api.ErrRSTP},
	} {
		ahead := told(b)
		if l, e := b.Do(x.c); e != x.e || l != nil {
			t.Error(what, l, e)
		}
		if behind := told(b); behind != ahead {
			t.Error(what, behind)
		}
	}
}

// P23.5: AddStatic and DelStatic: as fdb has them.
func TestStatic(t *testing.T) {
	b := ready(t, conf("cbb"))
	b.Backbone(1, hiding(far(1), far(9), 10, 5000, near(1), near(2)))
	ordered(t, b, static(10, far(9), 2), static(4094, far(9), 1))
	want := []api.Entry{{VID: 10, M: far(9), Port: 2, Static: true}, {VID: 4094, M: far(9), Port: 1, Static: true}}
	if l := b.Entries(); !slices.Equal(l, want) {
		t.Error(l)
	}
	b.Backbone(1, hiding(far(1), far(9), 10, 5000, near(1), near(2)))
	ordered(t, b, api.Command{Kind: api.DelStatic, Entry: api.Entry{VID: 4094, M: far(9), Port: -7}})
	if l := b.Entries(); !slices.Equal(l, want[:1]) {
		t.Error(l)
	}
}

// P23.5: FlushAll lets go all that was learned, behind every port, of every service; static entries stay, and so does all else.
func TestFlushAll(t *testing.T) {
	b := ready(t, conf("cbbcb"))
	ordered(t, b, carry(5001, 10), carry(5002, 10), attach(3, 500, 5001), static(10, far(9), 2))
	for _, port := range []int{1, 2, 4} {
		for isid := 5000; isid <= 5002; isid++ {
			b.Backbone(port, hiding(far(1), far(byte(10+port)), 10, isid, near(1), near(byte(port))))
		}
	}
	b.Customer(3, simple(all, near(8), 500))
	ordered(t, b, api.Command{Kind: api.DelMap, Map: api.Map{Port: 3, VID: 500, ISID: 5001}})
	if len(b.Entries()) != 4 || len(b.Known()) != 8 {
		t.Error(b.Entries(), b.Known())
	}
	rest := func() string {
		return fmt.Sprint(b.Counts(), b.Tree(), b.Prov(), b.Clock(), b.Waiting(0), b.lines[3].All())
	}
	ahead := rest()
	if l, e := b.Do(api.Command{Kind: api.FlushAll}); e != api.OK || len(l) != 0 {
		t.Error(l, e)
	}
	if l := b.Entries(); !slices.Equal(l, []api.Entry{{VID: 10, M: far(9), Port: 2, Static: true}}) || len(b.Known()) != 0 {
		t.Error(l, b.Known())
	}
	if behind := rest(); behind != ahead {
		t.Error(behind)
	}
}
