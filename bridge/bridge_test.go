package bridge

import (
	"bytes"
	"fmt"
	"slices"
	"testing"

	"pontage/api"
	"pontage/bpdu"
	"pontage/ether"
	"pontage/pbb"
	"pontage/rstp"
	"pontage/rvar"
)

// far is a bridge's address; far(1) is the one's own.
func far(n byte) api.MAC { return api.MAC{2, 0, 0, 0, 9, n} }

// near is a customer's.
func near(n byte) api.MAC { return api.MAC{2, 0, 0, 0, 0, n} }

var (
	all      = api.MAC{255, 255, 255, 255, 255, 255}
	group    = api.MAC{1, 0, 0x5e, 0, 0, 1}
	reserved = api.MAC{1, 0x80, 0xc2, 0, 0, 7}
	service  = api.MAC{1, 0x1e, 0x83, 0, 0x13, 0x88} // of 5000
)

// conf is that of a bridge, whose kinds of ports are told by letters.
func conf(kinds string) api.BridgeConf {
	c := api.BridgeConf{Own: far(1), Queue: 4, Age: 30, Entries: 8}
	c.Rstp = api.RstpConf{ID: 0x8000000000000005, T: api.Times{Max: 6, Hello: 2, Delay: 4}, TxHold: 6}
	for _, k := range kinds {
		c.Rstp.Costs = append(c.Rstp.Costs, 10)
		c.Kinds = append(c.Kinds, map[rune]api.PortKind{'c': api.Customer, 'b': api.Backbone}[k])
	}
	return c
}

func made(t *testing.T, c api.BridgeConf) *Bridge {
	t.Helper()
	b, e := New(c)
	if e != api.OK || b == nil {
		t.Fatal(b, e)
	}
	return b
}

func member(vid int, ports ...int) api.Command {
	return api.Command{Kind: api.SetMember, Member: api.Member{VID: vid, Ports: ports}}
}

func carry(isid, vid int) api.Command {
	return api.Command{Kind: api.AddCarry, Carry: api.Carry{ISID: isid, VID: vid}}
}

func attach(port, vid, isid int) api.Command {
	return api.Command{Kind: api.AddMap, Map: api.Map{Port: port, VID: vid, ISID: isid}}
}

func static(vid int, m api.MAC, port int) api.Command {
	return api.Command{Kind: api.AddStatic, Entry: api.Entry{VID: vid, M: m, Port: port}}
}

// ordered lets a bridge do commands that may be.
func ordered(t *testing.T, b *Bridge, l ...api.Command) {
	t.Helper()
	for _, c := range l {
		if _, e := b.Do(c); e != api.OK {
			t.Fatal(c, e)
		}
	}
}

func ticks(t *testing.T, b *Bridge, n int) {
	t.Helper()
	for range n {
		if _, e := b.Tick(); e != api.OK {
			t.Fatal(e)
		}
	}
}

// raise lets all backbone ports be up.
func raise(t *testing.T, b *Bridge) {
	t.Helper()
	for port, kind := range b.Prov().Kinds {
		if kind == api.Backbone {
			if _, e := b.Up(port, true); e != api.OK {
				t.Fatal(e)
			}
		}
	}
}

// readyAt is what time it is where a bridge is ready: as long as ports may take till they forward.
const readyAt = 16

// ready is a bridge whose backbone ports forward; service 5000 is carried by VLAN 10, of all of them, and each customer's port has it as VLAN 100 and its place.
func ready(t *testing.T, c api.BridgeConf) *Bridge {
	t.Helper()
	b := made(t, c)
	var ports []int
	for port, kind := range c.Kinds {
		if kind == api.Backbone {
			ports = append(ports, port)
		}
	}
	ordered(t, b, member(10, ports...), carry(5000, 10))
	for port, kind := range c.Kinds {
		if kind == api.Customer {
			ordered(t, b, attach(port, 100+port, 5000))
		}
	}
	raise(t, b)
	ticks(t, b, readyAt)
	for _, port := range ports {
		if !b.Tree().P[port].Forwarding {
			t.Fatal("port", port, "does not forward")
		}
	}
	return b
}

// framed is a customer's frame in a VLAN; rest is what is behind its tag.
func framed(da, sa api.MAC, vid int, rest ...byte) []byte {
	b, e := ether.Encode(api.Frame{DA: da, SA: sa, Tagged: true, S: api.Tag{PCP: 5, DEI: true, VID: vid}, Rest: rest})
	if e != api.OK {
		panic(e)
	}
	return b
}

// simple is one with a usual rest.
func simple(da, sa api.MAC, vid int) []byte {
	return framed(da, sa, vid, 8, 0, 77)
}

// hiding is a backbone frame of service isid with the same within.
func hiding(da, sa api.MAC, vid, isid int, cda, csa api.MAC) []byte {
	b, e := pbb.Encode(api.BFrame{DA: da, SA: sa, B: api.Tag{PCP: 5, DEI: true, VID: vid}, I: api.ITag{PCP: 5, DEI: true, UCA: true, ISID: isid, DA: cda, SA: csa}, Rest: []byte{8, 0, 77}})
	if e != api.OK {
		panic(e)
	}
	return b
}

// counts holds which counters rise by what is done against those that must.
func counts(t *testing.T, b *Bridge, what string, did func(), rise ...api.Why) {
	t.Helper()
	ahead := b.Counts()
	did()
	want := slices.Clone(ahead)
	for _, w := range rise {
		want[w]++
	}
	if l := b.Counts(); !slices.Equal(l, want) {
		t.Errorf("%s: counters: %v, behind %v, and not %v", what, l, ahead, want)
	}
}

// took takes all that wait at each port, and holds that against what must: of each port that is named one frame.
func took(t *testing.T, b *Bridge, what string, want map[int][]byte) {
	t.Helper()
	for port := range b.Prov().Kinds {
		var l [][]byte
		for b.Waiting(port) > 0 {
			x, ok := b.Next(port)
			if !ok {
				t.Fatal(what, "none is taken")
			}
			l = append(l, x)
		}
		if w, is := want[port]; is != (len(l) == 1) || len(l) > 1 || is && !bytes.Equal(l[0], w) {
			t.Errorf("%s: port %d: % x, and not % x", what, port, l, w)
		}
	}
}

// all that a bridge tells, and what waits there.
func told(b *Bridge) string {
	var l [][][]byte
	for port := range b.Prov().Kinds {
		l = append(l, b.lines[port].All())
	}
	return fmt.Sprint(b.Counts(), b.Tree(), b.Prov(), b.Entries(), b.Known(), b.Clock(), l)
}

// P23.1: which settings may be: each thing alone that makes them such as may not, and both sides of each bound.
func TestCheck(t *testing.T) {
	for name, turn := range map[string]func(c *api.BridgeConf){
		"no ID":             func(c *api.BridgeConf) { c.Rstp.ID = 1 << 48 },
		"Max 5":             func(c *api.BridgeConf) { c.Rstp.T.Max = 5 },
		"Hello 3":           func(c *api.BridgeConf) { c.Rstp.T.Hello = 3 },
		"an age":            func(c *api.BridgeConf) { c.Rstp.T.Age = 1 },
		"TxHold 0":          func(c *api.BridgeConf) { c.Rstp.TxHold = 0 },
		"TxHold 11":         func(c *api.BridgeConf) { c.Rstp.TxHold = 11 },
		"no ports":          func(c *api.BridgeConf) { c.Rstp.Costs, c.Kinds = nil, nil },
		"nine ports":        func(c *api.BridgeConf) { *c = conf("bbbbbbbbb") },
		"cost 0":            func(c *api.BridgeConf) { c.Rstp.Costs[1] = 0 },
		"cost 200000001":    func(c *api.BridgeConf) { c.Rstp.Costs[2] = 200000001 },
		"own is nobody's":   func(c *api.BridgeConf) { c.Own = api.MAC{} },
		"own is a group's":  func(c *api.BridgeConf) { c.Own = group },
		"own is all's":      func(c *api.BridgeConf) { c.Own = all },
		"own is bridges'":   func(c *api.BridgeConf) { c.Own = reserved },
		"own is a service":  func(c *api.BridgeConf) { c.Own = service },
		"a kind less":       func(c *api.BridgeConf) { c.Kinds = c.Kinds[:2] },
		"a kind more":       func(c *api.BridgeConf) { c.Kinds = append(c.Kinds, api.Backbone) },
		"no kinds":          func(c *api.BridgeConf) { c.Kinds = nil },
		"kind 0":            func(c *api.BridgeConf) { c.Kinds[0] = api.NoPort },
		"kind 3":            func(c *api.BridgeConf) { c.Kinds[2] = 3 },
		"kind -1":           func(c *api.BridgeConf) { c.Kinds[1] = -1 },
		"no queue":          func(c *api.BridgeConf) { c.Queue = 0 },
		"queue of -1":       func(c *api.BridgeConf) { c.Queue = -1 },
		"queue of 33":       func(c *api.BridgeConf) { c.Queue = 33 },
		"age 0":             func(c *api.BridgeConf) { c.Age = 0 },
		"age -1":            func(c *api.BridgeConf) { c.Age = -1 },
		"age above 2^20":    func(c *api.BridgeConf) { c.Age = 1<<20 + 1 },
		"no entries":        func(c *api.BridgeConf) { c.Entries = 0 },
		"-1 entries":        func(c *api.BridgeConf) { c.Entries = -1 },
		"257 entries":       func(c *api.BridgeConf) { c.Entries = 257 },
		"nothing is as may": func(c *api.BridgeConf) { *c = api.BridgeConf{} },
	} {
		c := conf("cbb")
		turn(&c)
		if e := Check(c); e != 230 {
			t.Error(name, e)
		}
		if b, e := New(c); b != nil || e != api.ErrBridge {
			t.Error(name, b, e)
		}
	}
	for name, turn := range map[string]func(c *api.BridgeConf){
		"usual":                func(c *api.BridgeConf) {},
		"least":                func(c *api.BridgeConf) { c.Queue, c.Age, c.Entries = 1, 1, 1 },
		"most":                 func(c *api.BridgeConf) { c.Queue, c.Age, c.Entries = 32, 1<<20, 256 },
		"one port":             func(c *api.BridgeConf) { *c = conf("c") },
		"eight ports":          func(c *api.BridgeConf) { *c = conf("bcbcbcbb") },
		"customers' alone":     func(c *api.BridgeConf) { *c = conf("ccc") },
		"the backbone's alone": func(c *api.BridgeConf) { *c = conf("bb") },
	} {
		c := conf("cbb")
		turn(&c)
		if e := Check(c); e != api.OK {
			t.Error(name, e)
		}
		if b, e := New(c); b == nil || e != api.OK {
			t.Error(name, b, e)
		}
	}
}

// P23.1: a new bridge: no port is Up, nothing is provisioned, known, counted, none waits; its tree is a new one of Rstp's settings; the room is as they say.
func TestNew(t *testing.T) {
	for _, kinds := range []string{"c", "b", "cb", "cbb", "bccb", "cbcbcbcb"} {
		c := conf(kinds)
		b := made(t, c)
		own, _ := rstp.New(c.Rstp)
		if x := b.Tree(); !rvar.Same(x, own.Tree()) || len(x.P) != len(kinds) {
			t.Error(kinds, x)
		}
		if p := b.Prov(); p.Own != far(1) || !slices.Equal(p.Kinds, c.Kinds) || len(p.Maps)+len(p.Carries)+len(p.Members) != 0 {
			t.Error(kinds, p)
		}
		if l := b.Counts(); !slices.Equal(l, make([]int, 15)) || len(b.Entries()) != 0 || len(b.Known()) != 0 || b.Clock() != 0 {
			t.Error(kinds, l, b.Entries(), b.Known(), b.Clock())
		}
		for port := range len(kinds) {
			x, ok := b.Next(port)
			if b.Tree().P[port].Up || b.Waiting(port) != 0 || x != nil || ok {
				t.Error(kinds, port)
			}
		}
	}
}

// P23.1: there is as much room for what waits at each port, and in each database, as settings say, and entries live as long.
func TestRoom(t *testing.T) {
	for _, room := range []int{1, 2, 5, 32} {
		c := conf("ccb")
		c.Queue, c.Entries, c.Age = room, room, room
		b := ready(t, c)
		for i := range 40 {
			b.Customer(0, simple(all, near(byte(i)), 100))
		}
		for i := range 40 {
			b.Backbone(2, hiding(far(7), far(byte(100+i)), 10, 5000, near(1), near(2)))
		}
		for port, n := range []int{0, room, room} {
			if b.Waiting(port) != n {
				t.Error(room, port, b.Waiting(port))
			}
		}
		if n := b.Counts(); n[api.QueueFull] != 2*(40-room) || n[api.OutCustomer] != room || n[api.OutBackbone] != room {
			t.Error(room, n)
		}
		if len(b.Known()) != room || len(b.Entries()) != room {
			t.Error(room, len(b.Known()), len(b.Entries()))
		}
		ticks(t, b, room-1)
		if len(b.Entries()) != room || len(b.Known()) != room {
			t.Error(room, "aged too soon")
		}
		ticks(t, b, 1)
		if len(b.Entries()) != 0 || len(b.Known()) != room { // a customer's entry that is just as old stays
			t.Error(room, len(b.Entries()), len(b.Known()))
		}
		ticks(t, b, 1)
		if len(b.Known()) != 0 {
			t.Error(room, "did not age")
		}
	}
}

// P23.6: a bridge that is nil, or that New did not make: ErrNil ahead of all else, and zero values.
func TestNobodyMadeIt(t *testing.T) {
	for name, b := range map[string]*Bridge{"nil": nil, "not New's": {}, "with a clock": {clock: 7, plan: api.Prov{Kinds: []api.PortKind{api.Customer, api.Backbone}}}} {
		for _, port := range []int{-1, 0, 1, 2} {
			if e := b.Customer(port, nil); e != 4 {
				t.Error(name, e)
			}
			if e := b.Backbone(port, simple(all, near(1), 100)); e != api.ErrNil {
				t.Error(name, e)
			}
			if l, e := b.Message(port, nil); l != nil || e != api.ErrNil {
				t.Error(name, l, e)
			}
			for _, up := range []bool{false, true} {
				if l, e := b.Up(port, up); l != nil || e != api.ErrNil {
					t.Error(name, l, e)
				}
			}
			if x, ok := b.Next(port); x != nil || ok || b.Waiting(port) != 0 {
				t.Error(name, x, ok)
			}
		}
		if l, e := b.Tick(); l != nil || e != api.ErrNil {
			t.Error(name, l, e)
		}
		for kind := api.CmdKind(-1); kind <= 12; kind++ {
			if l, e := b.Do(api.Command{Kind: kind}); l != nil || e != api.ErrNil {
				t.Error(name, kind, l, e)
			}
		}
		if x := b.Tree(); !rvar.Same(x, api.Tree{}) || b.Counts() != nil || b.Entries() != nil || b.Known() != nil || b.Clock() != 0 {
			t.Error(name, x)
		}
		if p := b.Prov(); p.Own != (api.MAC{}) || p.Kinds != nil || p.Maps != nil || p.Carries != nil || p.Members != nil {
			t.Error(name, p)
		}
	}
}

// P23.6: calls with a port: ErrRange where there is none, then ErrKind where it is of the other kind; nothing changes.
func TestPorts(t *testing.T) {
	b := ready(t, conf("cbcb"))
	ahead := told(b)
	tcn, _ := bpdu.Encode(far(2), api.BPDU{Kind: api.TCN})
	for _, port := range []int{-1 << 63, -1, 4, 5, 8, 1<<63 - 1} {
		if e := b.Customer(port, simple(all, near(1), 100)); e != 5 {
			t.Error(port, e)
		}
		if e := b.Backbone(port, nil); e != api.ErrRange {
			t.Error(port, e)
		}
		if l, e := b.Message(port, tcn); l != nil || e != api.ErrRange {
			t.Error(port, l, e)
		}
		if l, e := b.Up(port, true); l != nil || e != api.ErrRange {
			t.Error(port, l, e)
		}
		if l, e := b.Up(port, false); l != nil || e != api.ErrRange {
			t.Error(port, l, e)
		}
		if x, ok := b.Next(port); x != nil || ok || b.Waiting(port) != 0 {
			t.Error(port, x, ok)
		}
	}
	for _, port := range []int{0, 2} {
		if e := b.Backbone(port, hiding(far(1), far(2), 10, 5000, near(1), near(2))); e != 184 {
			t.Error(port, e)
		}
		if l, e := b.Message(port, tcn); l != nil || e != api.ErrKind {
			t.Error(port, l, e)
		}
		if l, e := b.Up(port, true); l != nil || e != api.ErrKind {
			t.Error(port, l, e)
		}
		if l, e := b.Up(port, false); l != nil || e != api.ErrKind {
			t.Error(port, l, e)
		}
	}
	for _, port := range []int{1, 3} {
		if e := b.Customer(port, simple(all, near(1), 100)); e != api.ErrKind {
			t.Error(port, e)
		}
	}
	if behind := told(b); behind != ahead {
		t.Error(behind)
	}
}
