package bridge

import (
	"bytes"
	"encoding/hex"
	"fmt"
	"math/rand"
	"slices"
	"testing"

	"pontage/api"
	"pontage/bcomp"
	"pontage/bpdu"
	"pontage/cfdb"
	"pontage/ether"
	"pontage/fdb"
	"pontage/icomp"
	"pontage/mac"
	"pontage/pbb"
	"pontage/prov"
	"pontage/rstp"
	"pontage/rvar"
)

// What the document says, said again without the package: of the layers below by their calls, but queues and counters are lists.

// station is a bridge.
type station struct {
	c     api.BridgeConf
	tree  *rstp.Bridge
	p     api.Prov
	back  *fdb.DB
	cust  *cfdb.Base
	wait  [8][][]byte
	count [15]int
	clock int
}

func newStation(c api.BridgeConf) *station {
	s := &station{c: c, p: api.Prov{Own: c.Own, Kinds: slices.Clone(c.Kinds)}}
	s.tree, _ = rstp.New(c.Rstp)
	s.back, _ = fdb.New(len(c.Kinds), c.Entries, c.Age)
	s.cust, _ = cfdb.New(c.Entries, c.Age)
	return s
}

func (s *station) wrong(port int, kind api.PortKind) api.Errno {
	if port < 0 || port >= len(s.p.Kinds) {
		return 5
	}
	if s.p.Kinds[port] != kind {
		return 184
	}
	return 0
}

func (s *station) put(l []api.Copy) {
	for _, c := range l {
		if len(s.wait[c.Port]) == s.c.Queue {
			s.count[12]++
			continue
		}
		s.wait[c.Port] = append(s.wait[c.Port], slices.Clone(c.Bytes))
		if s.p.Kinds[c.Port] == api.Customer {
			s.count[3]++
		} else {
			s.count[4]++
		}
	}
}

// spread is what goes out of backbone ports.
func (s *station) spread(from int, f api.BFrame) ([]api.Copy, bool) {
	x, e := pbb.Encode(f)
	if e != 0 {
		panic(e)
	}
	at, has := s.back.Find(f.B.VID, f.DA)
	ports, itself := bcomp.Out(s.p, bcomp.Gates(s.tree.Tree()), from, f, at, has)
	var l []api.Copy
	for _, port := range ports {
		l = append(l, api.Copy{Port: port, Bytes: x})
	}
	return l, itself
}

func (s *station) customer(port int, x []byte) api.Errno {
	if e := s.wrong(port, api.Customer); e != 0 {
		return e
	}
	f, why := icomp.Read(x)
	if why != 0 {
		s.count[why]++
		return 0
	}
	isid, why := icomp.Classify(s.p, port, f)
	if why != 0 {
		s.count[why]++
		return 0
	}
	s.count[1]++
	s.cust.Learn(isid, f.SA, s.c.Own, s.clock)
	var known bool
	var at api.MAC
	if mac.Kind(f.DA) == api.Single {
		at, known = s.cust.Find(isid, f.DA)
	}
	byOwn := known && at == s.c.Own
	var l []api.Copy
	if !known || byOwn {
		l, _ = icomp.Local(s.p, port, f)
	}
	reason := api.NoWhy
	if !byOwn {
		var h api.BFrame
		if h, reason = icomp.Encap(s.p, port, f, at, known); reason != 0 {
			s.count[reason]++
		} else {
			more, _ := s.spread(-1, h)
			l = append(l, more...)
		}
	}
	s.put(l)
	if len(l) == 0 && reason == 0 {
		s.count[14]++
	}
	return 0
}

func (s *station) backbone(port int, x []byte) api.Errno {
	if e := s.wrong(port, api.Backbone); e != 0 {
		return e
	}
	if !s.tree.Tree().P[port].Up {
		s.count[13]++
		return 0
	}
	f, e := pbb.Decode(x)
	if e == 2 {
		s.count[6]++
		return 0
	}
	if e != 0 {
		s.count[5]++
		return 0
	}
	g := bcomp.Gates(s.tree.Tree())
	if bcomp.Learns(s.p, g, port, f) {
		s.back.Learn(f.B.VID, f.SA, port, s.clock)
	}
	if why := bcomp.In(s.p, g, port, f); why != 0 {
		s.count[why]++
		return 0
	}
	s.count[2]++
	l, itself := s.spread(port, f)
	var accept, decap api.Why
	if itself {
		accept = bcomp.Accept(s.p, f)
		if accept == 0 {
			s.cust.Learn(f.I.ISID, f.I.SA, f.SA, s.clock)
			var more []api.Copy
			more, decap = icomp.Decap(s.p, f)
			l = append(l, more...)
		}
	}
	s.put(l)
	if len(l) == 0 {
		switch {
		case accept != 0:
			s.count[accept]++
		case decap != 0:
			s.count[decap]++
		default:
			s.count[14]++
		}
	}
	return 0
}

func (s *station) done(d rstp.Done, e api.Errno) ([]api.Copy, api.Errno) {
	for _, port := range d.Flushed {
		s.back.Flush(port)
	}
	var l []api.Copy
	for _, o := range d.Out {
		x, e := bpdu.Encode(s.c.Own, o.M)
		if e != 0 {
			panic(e)
		}
		l = append(l, api.Copy{Port: o.Port, Bytes: x})
	}
	return l, e
}

func (s *station) message(port int, x []byte) ([]api.Copy, api.Errno) {
	if e := s.wrong(port, api.Backbone); e != 0 {
		return nil, e
	}
	if !s.tree.Tree().P[port].Up {
		s.count[13]++
		return nil, 0
	}
	_, m, e := bpdu.Decode(x)
	if e != 0 {
		s.count[5]++
		return nil, 0
	}
	return s.done(s.tree.Hear(port, m))
}

func (s *station) up(port int, up bool) ([]api.Copy, api.Errno) {
	if e := s.wrong(port, api.Backbone); e != 0 {
		return nil, e
	}
	if !up {
		s.wait[port] = nil
	}
	return s.done(s.tree.Up(port, up))
}

func (s *station) tick() ([]api.Copy, api.Errno) {
	s.clock++
	s.back.Age(s.clock)
	s.cust.Age(s.clock)
	return s.done(s.tree.Tick())
}

func (s *station) do(c api.Command) ([]api.Copy, api.Errno) {
	if c.Kind >= api.AddMap && c.Kind <= api.DelMember {
		p, e := prov.Do(s.p, c)
		if e != 0 {
			return nil, e
		}
		s.p = p
		if c.Kind == api.DelCarry {
			s.cust.Flush(c.Carry.ISID)
		}
		if c.Kind == api.DelMember {
			s.back.Drop(c.Member.VID)
		}
		return nil, 0
	}
	if c.Kind == api.AddStatic {
		if e := s.wrong(c.Entry.Port, api.Backbone); e != 0 {
			return nil, e
		}
		return nil, s.back.Static(c.Entry.VID, c.Entry.M, c.Entry.Port)
	}
	if c.Kind == api.SetCost {
		if e := s.wrong(c.Port, api.Backbone); e != 0 {
			return nil, e
		}
		return s.done(s.tree.SetCost(c.Port, c.Cost))
	}
	if c.Kind == api.DelStatic {
		return nil, s.back.Unstatic(c.Entry.VID, c.Entry.M)
	}
	if c.Kind == api.SetID {
		return s.done(s.tree.SetID(c.ID))
	}
	if c.Kind == api.FlushAll {
		for port := range s.p.Kinds {
			s.back.Flush(port)
		}
		for _, k := range s.cust.All() {
			s.cust.Flush(k.ISID)
		}
		return nil, 0
	}
	return nil, 1
}

// told is what it tells, but its tree.
func (s *station) told() string {
	return fmt.Sprint(s.count, s.p, s.back.All(), s.cust.All(), s.clock) + waits(s.wait[:len(s.p.Kinds)])
}

// light is what a bridge tells, but its tree.
func light(b *Bridge) string {
	var l [][][]byte
	for port := range b.Prov().Kinds {
		l = append(l, b.lines[port].All())
	}
	return fmt.Sprint(b.Counts(), b.Prov(), b.Entries(), b.Known(), b.Clock()) + waits(l)
}

// waits are frames that wait, by ports.
func waits(ports [][][]byte) string {
	var l []byte
	for _, frames := range ports {
		l = append(l, '/')
		for _, f := range frames {
			l = append(append(l, ' '), hex.EncodeToString(f)...)
		}
	}
	return string(l)
}

// life is a bridge, and what the document says of it, led by chance.
type life struct {
	t    *testing.T
	r    *rand.Rand
	b    *Bridge
	s    *station
	seen map[string]int
}

func newLife(t *testing.T, seed int64) *life {
	r := rand.New(rand.NewSource(seed))
	kinds := []byte("cb")
	for range r.Intn(5) {
		kinds = append(kinds, "ccbbb"[r.Intn(5)])
	}
	r.Shuffle(len(kinds), func(i, j int) { kinds[i], kinds[j] = kinds[j], kinds[i] })
	c := conf(string(kinds))
	c.Queue, c.Age, c.Entries = 1+r.Intn(6), 1+r.Intn(20), 1+r.Intn(8)
	return &life{t, r, made(t, c), newStation(c), map[string]int{}}
}

func pick[T any](r *rand.Rand, l ...T) T { return l[r.Intn(len(l))] }

func (x *life) vid() int { return pick(x.r, 100, 100, 101, 102) }

func (x *life) bvid() int { return pick(x.r, 10, 10, 10, 20, 30) }

func (x *life) isid() int { return pick(x.r, 5000, 5000, 5001, 70) }

// port is any of the bridge's, mostly of that kind.
func (x *life) port(kind api.PortKind) int {
	for {
		port := x.r.Intn(len(x.s.p.Kinds)+2) - 1
		if x.s.wrong(port, kind) == 0 || x.r.Intn(20) == 0 {
			return port
		}
	}
}

func (x *life) ports() []int {
	var l []int
	for port, kind := range x.s.p.Kinds {
		if (kind == api.Backbone || x.r.Intn(30) == 0) && x.r.Intn(5) > 0 {
			l = append(l, port)
		}
	}
	return l
}

func (x *life) guest() api.MAC {
	return pick(x.r, near(1), near(2), near(3), near(4), near(1), near(2), all, group, reserved, far(1))
}

func (x *life) rest() []byte {
	return pick(x.r, []byte{8, 0, 7}, []byte{8, 0}, []byte{8, 6, 1, 2}, []byte{0x88, 0xa8, 0, 9, 8, 0}, make([]byte, 1502))
}

// spoiled is some bytes, which may no longer be any frame's.
func (x *life) spoiled(b []byte) []byte {
	switch x.r.Intn(30) {
	case 0:
		return b[:x.r.Intn(len(b))]
	case 1:
		return append(b, make([]byte, 1500)...)
	case 2, 3:
		b[x.r.Intn(min(len(b), 34))] ^= byte(1 << x.r.Intn(8))
	}
	return b
}

func (x *life) customersFrame() []byte {
	f := api.Frame{DA: x.guest(), SA: near(byte(1 + x.r.Intn(5))), Tagged: x.r.Intn(20) > 0, Rest: x.rest()}
	if f.Tagged {
		f.S = api.Tag{PCP: x.r.Intn(8), DEI: x.r.Intn(2) == 0, VID: x.vid()}
	} else {
		f.Rest = []byte{8, 0, 1}
	}
	b, e := ether.Encode(f)
	if e != 0 {
		x.t.Fatal(e)
	}
	return x.spoiled(b)
}

func (x *life) backboneFrame() []byte {
	isid := x.isid()
	f := api.BFrame{DA: pick(x.r, far(1), far(1), far(2), far(3), far(4), icomp.Group(isid), icomp.Group(isid), all, reserved), SA: far(byte(2 + x.r.Intn(3))), B: api.Tag{PCP: x.r.Intn(8), VID: x.bvid()}, I: api.ITag{PCP: x.r.Intn(8), DEI: x.r.Intn(2) == 0, UCA: true, ISID: isid, DA: x.guest(), SA: near(byte(1 + x.r.Intn(5)))}, Rest: x.rest()}
	if x.r.Intn(30) == 0 {
		f.SA = far(1)
	}
	if f.Rest[0] == 0x88 {
		f.Rest[0] = 8
	}
	b, e := pbb.Encode(f)
	if e != 0 {
		x.t.Fatal(e)
	}
	return x.spoiled(b)
}

func (x *life) messagesFrame() []byte {
	m := api.BPDU{Kind: api.MsgKind(1 + x.r.Intn(3))}
	if m.Kind != api.TCN {
		id := 0x8000<<48 | uint64(2+x.r.Intn(6))
		m.TC, m.T = x.r.Intn(2) == 0, api.Times{Max: 6, Hello: 2, Delay: 4}
		m.V = api.Vector{Root: pick(x.r, id, 0x8000<<48|1, 0x8000<<48|5), Cost: uint32(x.r.Intn(3)), Bridge: id, Port: 0x8001}
	}
	if m.Kind == api.RST {
		m.Role = pick(x.r, api.Designated, api.Designated, api.Root, api.Alternate, api.Disabled)
		m.Proposal, m.Agreement, m.Learning, m.Forward = x.r.Intn(2) == 0, x.r.Intn(2) == 0, x.r.Intn(2) == 0, x.r.Intn(2) == 0
	}
	return x.spoiled(said(m))
}

func (x *life) command() api.Command {
	c := api.Command{Kind: api.CmdKind(x.r.Intn(13)), ID: pick(x.r, uint64(0x8000<<48|5), 0x8000<<48|1, 0x9000<<48|5, 0x8000<<48), Port: x.port(api.Backbone), Cost: pick(x.r, uint32(10), 1, 0, 200000000, 20)}
	c.Map = api.Map{Port: x.port(api.Customer), VID: x.vid(), ISID: x.isid()}
	c.Carry = api.Carry{ISID: x.isid(), VID: x.bvid()}
	c.Member = api.Member{VID: x.bvid(), Ports: x.ports()}
	c.Entry = api.Entry{VID: x.bvid(), M: pick(x.r, far(2), far(3), far(4), group), Port: x.port(api.Backbone)}
	if x.r.Intn(3) > 0 { // that something is provisioned most of the time
		c.Kind = pick(x.r, api.AddMap, api.AddCarry, api.SetMember)
	}
	return c
}

// P23.2 to P23.6: whatever happens to a bridge, it tells what the document says.
func TestByChance(t *testing.T) {
	seen := map[string]int{}
	var sum [15]int
	for seed := range int64(60) {
		x := newLife(t, seed)
		x.seen = seen
		for range 700 {
			x.happen()
			if t.Failed() {
				t.Fatal("seed", seed)
			}
		}
		for w, n := range x.b.Counts() {
			sum[w] += n
		}
	}
	for w, n := range sum[1:] {
		if n < 100 {
			t.Error("counter", w+1, "is", n)
		}
	}
	for _, what := range []string{"customer 0", "customer 5", "customer 184", "backbone 0", "backbone 5", "backbone 184", "message 0", "message 5", "message 184", "up 0", "up 5", "up 184", "tick 0", "flushed by message", "flushed by up", "flushed by tick", "told by message", "told by up", "told by tick", "told by command", "taken", "none to take", "not taken", "to nobody", "not hidden", "to somebody",
		"command 0", "command 1", "command 5", "command 70", "command 71", "command 72", "command 170", "command 181", "command 182", "command 183", "command 184"} {
		if seen[what] < 9 {
			t.Error(what, "came about", seen[what], "times")
		}
	}
}

// happen lets one thing happen to both, and holds them against each other.
func (x *life) happen() {
	x.t.Helper()
	what, entries, tree := "", len(x.b.Entries()), x.b.Tree()
	var l, want []api.Copy
	var e, e2 api.Errno
	switch n := x.r.Intn(100); {
	case n < 30:
		port, f := x.port(api.Customer), x.customersFrame()
		what = "customer"
		e, e2 = x.data(api.Customer, port, f), x.s.customer(port, f)
	case n < 55:
		port, f := x.port(api.Backbone), x.backboneFrame()
		what = "backbone"
		e, e2 = x.data(api.Backbone, port, f), x.s.backbone(port, f)
	case n < 60:
		port, f := x.port(api.Backbone), x.messagesFrame()
		what = "message"
		l, e = x.b.Message(port, f)
		want, e2 = x.s.message(port, f)
	case n < 63:
		port, up := x.port(api.Backbone), x.r.Intn(6) > 0
		what = "up"
		l, e = x.b.Up(port, up)
		want, e2 = x.s.up(port, up)
	case n < 75:
		what = "tick"
		l, e = x.b.Tick()
		want, e2 = x.s.tick()
	case n < 90:
		c := x.command()
		what = "command"
		l, e = x.refused(c)
		want, e2 = x.s.do(c)
	default:
		x.take()
		return
	}
	x.seen[fmt.Sprint(what, " ", int(e))]++
	if len(want) > 0 {
		x.seen["told by "+what]++
	}
	if len(x.b.Entries()) < entries && !rvar.Same(tree, x.b.Tree()) {
		x.seen["flushed by "+what]++
	}
	if e != e2 || !sameCopies(l, want) {
		x.t.Errorf("%s: %v %d, and not %v %d", what, l, e, want, e2)
	}
	if a, b := light(x.b), x.s.told(); a != b {
		x.t.Errorf("%s:\n%s, and not\n%s", what, a, b)
	}
	if !rvar.Same(x.b.Tree(), x.s.tree.Tree()) {
		x.t.Errorf("%s: %+v", what, x.b.Tree())
	}
}

// take takes what waits at a port, if any.
func (x *life) take() {
	port := x.r.Intn(len(x.s.p.Kinds)+2) - 1
	f, ok := x.b.Next(port)
	if port < 0 || port >= len(x.s.p.Kinds) || len(x.s.wait[port]) == 0 {
		x.seen["none to take"]++
		if ok || f != nil || x.b.Waiting(port) != 0 {
			x.t.Error(port, f, ok)
		}
		return
	}
	x.seen["taken"]++
	if !ok || !bytes.Equal(f, x.s.wait[port][0]) {
		x.t.Errorf("%d: % x %v", port, f, ok)
	}
	x.s.wait[port] = x.s.wait[port][1:]
	if x.b.Waiting(port) != len(x.s.wait[port]) {
		x.t.Error(port, x.b.Waiting(port))
	}
}

// P23.10: where a command is refused nothing is told, and nothing is changed; what is handed in never is.
func (x *life) refused(c api.Command) ([]api.Copy, api.Errno) {
	x.t.Helper()
	ahead, tree, same := light(x.b), x.b.Tree(), fmt.Sprint(c)
	l, e := x.b.Do(c)
	if e != 0 && (l != nil || light(x.b) != ahead || !rvar.Same(tree, x.b.Tree())) {
		x.t.Error(c, l, e)
	}
	if fmt.Sprint(c) != same {
		x.t.Error(c, "and not", same)
	}
	return l, e
}

// serviceOf is that under which a frame's bytes come in at a port.
func (x *life) serviceOf(kind api.PortKind, port int, f []byte) int {
	if kind == api.Backbone {
		return int(f[19])<<16 | int(f[20])<<8 | int(f[21])
	}
	return x.serviceAt(port, f)
}

// serviceAt is that to which a customer's frame's VLAN maps at a port; 0: to none.
func (x *life) serviceAt(port int, f []byte) int {
	for _, m := range x.s.p.Maps {
		if m.Port == port && m.VID == int(f[14]&15)<<8|int(f[15]) {
			return m.ISID
		}
	}
	return 0
}

// data lets a frame come in, and sees to what follows of that: the spanning tree is as it was (P23.8), counters and what is put tell one thing (P23.7), customers get what is of their service (P23.9).
func (x *life) data(kind api.PortKind, port int, f []byte) api.Errno {
	x.t.Helper()
	counters, tree, same := x.b.Counts(), x.b.Tree(), slices.Clone(f)
	var wait [8]int
	for port := range x.s.p.Kinds {
		wait[port] = x.b.Waiting(port)
	}
	come := x.b.Customer
	if kind == api.Backbone {
		come = x.b.Backbone
	}
	e := come(port, f)
	if !bytes.Equal(f, same) || !rvar.Same(tree, x.b.Tree()) {
		x.t.Errorf("% x was % x; %+v", f, same, x.b.Tree())
	}
	var rise [15]int
	for w, n := range x.b.Counts() {
		rise[w] = n - counters[w]
	}
	var put [3]int
	for to, is := range x.s.p.Kinds {
		more := x.b.lines[to].All()[wait[to]:]
		put[is] += len(more)
		for _, m := range more {
			if isid := x.serviceOf(kind, port, f); is == api.Customer && (isid == 0 || x.serviceAt(to, m) != isid) {
				x.t.Errorf("port %d: % x of % x", to, m, f)
			}
		}
	}
	x.one(kind, e, rise, put)
	return e
}

// one sees to it that counters tell what became of a frame: either it was not taken, for one reason; or it was, and each copy was put, or was not for want of room; or there were none, for one reason.
func (x *life) one(kind api.PortKind, e api.Errno, rise [15]int, put [3]int) {
	x.t.Helper()
	taken, full, reasons := rise[kind], rise[12], rise[13]+rise[14]
	for _, n := range rise[5:12] {
		reasons += n
	}
	copies := put[api.Customer] + put[api.Backbone] + full
	ok := rise[3] == put[api.Customer] && rise[4] == put[api.Backbone] && rise[3-kind] == 0
	switch {
	case e != 0:
		ok = ok && taken+copies+reasons == 0
	case taken == 0:
		ok = ok && copies == 0 && reasons == 1
		x.seen["not taken"]++
	case copies == 0:
		ok = ok && taken == 1 && reasons == 1
		x.seen["to nobody"]++
	case reasons > 0: // it could not be encapsulated
		ok = ok && taken == 1 && reasons == 1 && rise[5] == 1 && kind == api.Customer && put[api.Backbone] == 0
		x.seen["not hidden"]++
	default:
		ok = ok && taken == 1
		x.seen["to somebody"]++
	}
	if !ok {
		x.t.Error(kind, e, rise, put)
	}
}

// P23.8: two bridges of which one has customers' frames and data of the backbone besides say the same all the time, and have the same trees.
func TestSilence(t *testing.T) {
	events := 0
	for seed := range int64(30) {
		x, y := newLife(t, seed), newLife(t, seed)
		r := rand.New(rand.NewSource(seed + 1000))
		for range 400 {
			for range r.Intn(3) {
				x.data(api.Customer, x.port(api.Customer), x.customersFrame())
				x.data(api.Backbone, x.port(api.Backbone), x.backboneFrame())
				x.b.Next(r.Intn(len(x.s.p.Kinds)))
			}
			var a, b []api.Copy
			switch port, up, c := x.port(api.Backbone), r.Intn(8) > 0, x.command(); r.Intn(4) {
			case 0:
				f := x.messagesFrame()
				a, _ = x.b.Message(port, slices.Clone(f))
				b, _ = y.b.Message(port, f)
			case 1:
				a, _ = x.b.Up(port, up)
				b, _ = y.b.Up(port, up)
			case 2:
				x.s.do(c)
				a, _ = x.b.Do(c)
				b, _ = y.b.Do(c)
			default:
				a, _ = x.b.Tick()
				b, _ = y.b.Tick()
			}
			events += len(a)
			if !sameCopies(a, b) || !rvar.Same(x.b.Tree(), y.b.Tree()) {
				t.Fatal(seed, a, b)
			}
		}
	}
	if events < 1000 {
		t.Error(events)
	}
}

// What is told is one's own: what is done with it changes neither the bridge, nor what else is told.
func TestToldIsOwn(t *testing.T) {
	x := newLife(t, 5)
	wrecked := 0
	for range 2000 {
		var l []api.Copy
		port := x.port(api.Backbone)
		switch x.r.Intn(4) {
		case 0:
			x.b.Customer(x.port(api.Customer), x.customersFrame())
		case 1:
			l, _ = x.b.Message(port, x.messagesFrame())
		case 2:
			l, _ = x.b.Tick()
		default:
			l, _ = x.b.Up(port, x.r.Intn(9) > 0)
		}
		ahead := told(x.b)
		for i := range l {
			for j := i + 1; j < len(l); j++ {
				same := slices.Clone(l[j].Bytes)
				clear(l[i].Bytes)
				if !bytes.Equal(same, l[j].Bytes) {
					t.Fatal("two share their bytes")
				}
			}
			clear(l[i].Bytes)
			wrecked++
		}
		if behind := told(x.b); behind != ahead {
			t.Fatal(behind)
		}
	}
	if wrecked < 100 {
		t.Error(wrecked)
	}
}
