package bcomp

import (
	"math/rand"
	"slices"
	"testing"

	"pontage/api"
	"pontage/prov"
)

// What the document says, said again without the package: each port is asked by itself, of sets of ports.

// asked is a frame at a bridge, and all that is asked of it.
type asked struct {
	p          api.Prov
	g          []Gate
	port, from int
	b          api.BFrame
	at         int
	has        bool
}

// told is what is answered.
type told struct {
	in     api.Why
	learns bool
	out    []int
	itself bool
	accept api.Why
}

func (a asked) answer() told {
	var w told
	w.in = In(a.p, a.g, a.port, a.b)
	w.learns = Learns(a.p, a.g, a.port, a.b)
	w.out, w.itself = Out(a.p, a.g, a.from, a.b, a.at, a.has)
	w.accept = Accept(a.p, a.b)
	return w
}

func (w told) is(v told) bool {
	return w.in == v.in && w.learns == v.learns && slices.Equal(w.out, v.out) && w.itself == v.itself && w.accept == v.accept
}

// listed are the ports of the first Member of the frame's VLAN.
func (a asked) listed() []int {
	for _, m := range a.p.Members {
		if m.VID == a.b.B.VID {
			return m.Ports
		}
	}
	return nil
}

func (a asked) member() map[int]bool {
	is := map[int]bool{}
	for _, port := range a.listed() {
		is[port] = true
	}
	return is
}

func (a asked) doing(of func(g Gate) bool) map[int]bool {
	is := map[int]bool{}
	for port, g := range a.g {
		is[port] = of(g)
	}
	return is
}

func (a asked) forwards() map[int]bool { return a.doing(func(g Gate) bool { return g.Forwards }) }

func (a asked) learning() map[int]bool { return a.doing(func(g Gate) bool { return g.Learns }) }

// want is what the document asks.
func (a asked) want() told {
	var w told
	reserved := a.b.DA[0] == 1 && a.b.DA[1] == 128 && a.b.DA[2] == 194 && a.b.DA[3] == 0 && a.b.DA[4] == 0 && a.b.DA[5] < 16
	switch {
	case !a.member()[a.port]:
		w.in = api.NoMember
	case a.b.SA == a.p.Own:
		w.in = api.OwnFrame
	case reserved:
		w.in = api.Away
	case !a.forwards()[a.port]:
		w.in = api.Blocked
	}
	single := a.b.SA[0]&1 == 0 && a.b.SA != api.MAC{}
	w.learns = a.member()[a.port] && a.learning()[a.port] && a.b.SA != a.p.Own && single
	w.out = a.wantOut()
	w.itself = a.from >= 0 && (a.b.DA == a.p.Own || a.b.DA[0]&1 == 1)
	w.accept = api.NoService
	for _, c := range slices.Backward(a.p.Carries) {
		if c.ISID == a.b.I.ISID {
			w.accept = api.NoService
			if c.VID == a.b.B.VID {
				w.accept = api.NoWhy
			}
		}
	}
	return w
}

func (a asked) wantOut() []int {
	if a.b.DA == a.p.Own {
		return nil
	}
	may := a.member()
	for port := range may {
		may[port] = port != a.from && a.forwards()[port]
	}
	if a.has && a.b.DA[0]&1 == 0 {
		if may[a.at] {
			return []int{a.at}
		}
		return nil
	}
	var out []int
	for _, port := range a.listed() {
		if may[port] {
			out = append(out, port)
			may[port] = false
		}
	}
	return out
}

// chance makes bridges and frames of few numbers, so that they meet.
type chance struct{ *rand.Rand }

func (r chance) port() int {
	if r.Intn(8) == 0 {
		return []int{-2, -1, 8, 9}[r.Intn(4)]
	}
	return r.Intn(8)
}

func (r chance) vid() int { return 1 + r.Intn(3) }

func (r chance) isid() int { return 1 + r.Intn(4) }

func (r chance) address(own api.MAC) api.MAC {
	if r.Intn(3) == 0 {
		return api.MAC{2, 0, 0, 0, 0, byte(r.Intn(4))}
	}
	return []api.MAC{own, far, other, none, all, bridge, last, beyond, group, of5000}[r.Intn(10)]
}

// good is what may be provisioned, by commands.
func (r chance) good() api.Prov {
	p := api.Prov{Own: own}
	for range 8 {
		p.Kinds = append(p.Kinds, []api.PortKind{api.Customer, api.Backbone, api.Backbone}[r.Intn(3)])
	}
	for range 12 {
		c := api.Command{
			Kind:   []api.CmdKind{api.SetMember, api.SetMember, api.AddCarry, api.AddMap}[r.Intn(4)],
			Map:    api.Map{Port: r.Intn(8), VID: r.vid(), ISID: r.isid()},
			Carry:  api.Carry{ISID: r.isid(), VID: r.vid()},
			Member: api.Member{VID: r.vid(), Ports: r.backbones(p)},
		}
		p, _ = prov.Do(p, c)
	}
	return p
}

// backbones are some of the ports that are the backbone's, most of the time most.
func (r chance) backbones(p api.Prov) []int {
	var ports []int
	for port, kind := range p.Kinds {
		if kind == api.Backbone && r.Intn(4) > 0 {
			ports = append(ports, port)
		}
	}
	return ports
}

// any is what may stand there by hand: rows that do not rise, that are there twice, with ports that there are not.
func (r chance) any() api.Prov {
	p := api.Prov{Own: r.address(own)}
	for range r.Intn(5) {
		p.Carries = append(p.Carries, api.Carry{ISID: r.isid(), VID: r.vid()})
	}
	for range r.Intn(5) {
		m := api.Member{VID: r.vid()}
		for range r.Intn(12) {
			m.Ports = append(m.Ports, r.port())
		}
		p.Members = append(p.Members, m)
	}
	for range r.Intn(5) {
		p.Maps = append(p.Maps, api.Map{Port: r.port(), VID: r.vid(), ISID: r.isid()})
	}
	return p
}

// gates are of 8 ports, seldom of fewer, or of more.
func (r chance) gates() []Gate {
	n := 8
	if r.Intn(6) == 0 {
		n = r.Intn(11)
	}
	g := make([]Gate, n)
	for i := range g {
		forwards := r.Intn(3) > 0
		g[i] = Gate{Learns: forwards || r.Intn(2) == 0, Forwards: forwards}
		if r.Intn(8) == 0 {
			g[i] = Gate{Forwards: true}
		}
	}
	return g
}

// ask is one of p.
func (r chance) ask(p api.Prov) asked {
	a := asked{p: p, g: r.gates(), port: r.port(), from: r.port(), at: r.port(), has: r.Intn(2) == 0}
	a.b = api.BFrame{DA: r.address(p.Own), SA: r.address(p.Own), B: api.Tag{PCP: r.Intn(8), DEI: r.Intn(2) == 0, VID: r.vid()}, I: api.ITag{ISID: r.isid(), DA: r.address(p.Own), SA: r.address(p.Own)}}
	a.b.Rest = make([]byte, r.Intn(3))
	if ports := a.listed(); len(ports) > 0 && r.Intn(4) > 0 {
		a.port, a.at = ports[r.Intn(len(ports))], ports[r.Intn(len(ports))]
		a.from = []int{a.port, a.from, a.at, -1}[r.Intn(4)]
	}
	return a
}

// led are frames by chance, at bridges that may be, and at others.
func led(seed int64, n int, each func(r chance, a asked)) {
	r := chance{rand.New(rand.NewSource(seed))}
	for i := range n {
		p := r.good()
		if i%3 == 0 {
			p = r.any()
		}
		for range 10 {
			each(r, r.ask(p))
		}
	}
}

// P19.2, P19.3, P19.4: frames by chance, against the chapter's words said again; all answers come about, often.
func TestTold(t *testing.T) {
	why, accept := map[api.Why]int{}, map[api.Why]int{}
	var learns, itself, has [2]int
	var count [9]int
	led(19, 20000, func(_ chance, a asked) {
		got, want := a.answer(), a.want()
		if !got.is(want) {
			t.Fatalf("%+v: %+v, not %+v", a, got, want)
		}
		why[got.in]++
		accept[got.accept]++
		learns[bit(got.learns)]++
		itself[bit(got.itself)]++
		has[bit(a.has && len(got.out) == 1)]++
		count[len(got.out)]++
	})
	for _, w := range []api.Why{api.NoWhy, api.NoMember, api.OwnFrame, api.Away, api.Blocked} {
		if why[w] < 3000 {
			t.Error("seldom", w, why[w])
		}
	}
	if min(accept[api.NoWhy], accept[api.NoService], learns[0], learns[1], itself[0], itself[1], has[0], has[1]) < 3000 || slices.Min(count[:6]) < 300 {
		t.Error(accept, learns, itself, has, count)
	}
}

func bit(is bool) int {
	if is {
		return 1
	}
	return 0
}

// P19.1: trees by chance: each port's gate is that port's, and nobody else's.
func TestGatesTold(t *testing.T) {
	r := chance{rand.New(rand.NewSource(191))}
	for range 2000 {
		tree := api.Tree{ID: r.Uint64(), P: make([]api.Port, r.Intn(12))}
		for i := range tree.P {
			coin := func() bool { return r.Intn(2) == 0 }
			tree.P[i] = api.Port{Up: coin(), Learn: coin(), Learning: coin(), Forward: coin(), Forwarding: coin(), Selected: coin()}
		}
		was := slices.Clone(tree.P)
		g := Gates(tree)
		if len(g) != len(tree.P) || !slices.Equal(was, tree.P) {
			t.Fatal(g, tree)
		}
		for i, p := range tree.P {
			if g[i].Learns != p.Learning || g[i].Forwards != p.Forwarding {
				t.Fatal(i, g, p)
			}
		}
	}
}

// P19.5: a frame goes to members that forward alone, never back, to each once; in order, where members rise.
func TestMembers(t *testing.T) {
	went := 0
	led(195, 10000, func(_ chance, a asked) {
		out, _ := Out(a.p, a.g, a.from, a.b, a.at, a.has)
		once := map[int]int{}
		for _, port := range out {
			once[port]++
			if !a.member()[port] || !a.forwards()[port] || port == a.from || once[port] > 1 {
				t.Fatalf("%+v: %v", a, out)
			}
			went++
		}
		if slices.IsSorted(a.listed()) && !slices.IsSorted(out) {
			t.Fatalf("%+v: %v", a, out)
		}
	})
	if went < 50000 {
		t.Error(went)
	}
}

// P19.6: what is to many goes everywhere where one that is unknown goes, which is wherever one that is known may go; and what is known at most there.
func TestFlood(t *testing.T) {
	several := 0
	led(196, 10000, func(_ chance, a asked) {
		a.b.DA = api.MAC{0, 7, 7, 7, 7, 7} // nobody's own
		unknown, _ := Out(a.p, a.g, a.from, a.b, a.at, false)
		known, _ := Out(a.p, a.g, a.from, a.b, a.at, true)
		if is := slices.Contains(unknown, a.at); is != slices.Equal(known, []int{a.at}) || !is && len(known) != 0 {
			t.Fatalf("%+v: %v, %v", a, unknown, known)
		}
		for _, da := range toMany {
			a.b.DA = da
			many, _ := Out(a.p, a.g, a.from, a.b, a.at, a.has)
			if a.p.Own != da && !slices.Equal(many, unknown) {
				t.Fatalf("%+v: %v, %v", a, unknown, many)
			}
		}
		several += bit(len(unknown) > 1)
	})
	if several < 10000 {
		t.Error(several)
	}
}

// elsewhere is p with other rows of all VLANs and services but the frame's.
func (r chance) elsewhere(p api.Prov, b api.BFrame) api.Prov {
	q := r.any()
	q.Own = p.Own
	mine := func(m api.Member) bool { return m.VID == b.B.VID }
	its := func(c api.Carry) bool { return c.ISID == b.I.ISID }
	q.Members = slices.DeleteFunc(q.Members, mine)
	for _, m := range p.Members {
		if mine(m) {
			q.Members = append(q.Members, m)
		}
	}
	q.Carries = slices.DeleteFunc(q.Carries, its)
	for _, c := range p.Carries {
		if its(c) {
			q.Carries = append(q.Carries, c)
		}
	}
	return q
}

// P19.7: what is provisioned of other VLANs, of other services, and of customers' ports, turns nothing: rows that are there by chance.
func TestApart(t *testing.T) {
	turned := 0
	led(197, 10000, func(r chance, a asked) {
		was, x := a.answer(), a
		x.p = r.elsewhere(a.p, a.b)
		if now := x.answer(); !now.is(was) {
			t.Fatalf("%+v: %+v; %+v: %+v", a, was, x.p, now)
		}
		turned += bit(!prov.Same(a.p, x.p) && len(was.out) > 0)
	})
	if turned < 10000 {
		t.Error(turned)
	}
}

// command is any of the management's, of rows that are there, or of others.
func (r chance) command(p api.Prov) api.Command {
	c := api.Command{
		Kind:   api.AddMap + api.CmdKind(r.Intn(6)),
		Map:    api.Map{Port: r.Intn(8), VID: r.vid(), ISID: r.isid()},
		Carry:  api.Carry{ISID: r.isid(), VID: r.vid()},
		Member: api.Member{VID: r.vid(), Ports: r.backbones(p)},
	}
	if c.Kind == api.DelMap && len(p.Maps) > 0 {
		c.Map = p.Maps[r.Intn(len(p.Maps))]
	}
	if c.Kind == api.DelCarry && len(p.Carries) > 0 {
		c.Carry = p.Carries[r.Intn(len(p.Carries))]
	}
	return c
}

// P19.7: the same of what may be, by commands that name another VLAN, or another service.
func TestApartCommands(t *testing.T) {
	done := map[api.CmdKind]int{}
	led(198, 10000, func(r chance, a asked) {
		if prov.Check(a.p) != api.OK {
			return
		}
		was, x := a.answer(), a
		for range 6 {
			c := r.command(x.p)
			if c.Map.ISID == a.b.I.ISID || c.Carry.ISID == a.b.I.ISID || c.Member.VID == a.b.B.VID {
				continue
			}
			q, e := prov.Do(x.p, c)
			x.p = q
			done[c.Kind] += bit(e == api.OK)
			if now := x.answer(); !now.is(was) {
				t.Fatalf("%+v: %+v; %+v: %+v", a, was, c, now)
			}
		}
	})
	for kind := api.AddMap; kind <= api.DelMember; kind++ {
		if done[kind] < 300 {
			t.Error(kind, done[kind])
		}
	}
}

// roomy is a twin of what is asked, with room behind each list, into which one that appends would write.
func roomy(a asked) asked {
	x := a
	x.g = append(make([]Gate, 0, 40), a.g...)
	x.b.Rest = append(make([]byte, 0, 40), a.b.Rest...)
	x.p.Kinds = append(make([]api.PortKind, 0, 40), a.p.Kinds...)
	x.p.Maps = append(make([]api.Map, 0, 40), a.p.Maps...)
	x.p.Carries = append(make([]api.Carry, 0, 40), a.p.Carries...)
	x.p.Members = make([]api.Member, 0, 40)
	for _, m := range a.p.Members {
		x.p.Members = append(x.p.Members, api.Member{VID: m.VID, Ports: append(make([]int, 0, 40), m.Ports...)})
	}
	return x
}

// rooms is all that stands in the room behind the lists.
func (a asked) rooms() []int {
	var l []int
	for _, g := range a.g[len(a.g):cap(a.g)] {
		l = append(l, bit(g.Learns)+2*bit(g.Forwards))
	}
	for _, m := range a.p.Members {
		l = append(l, m.Ports[len(m.Ports):cap(m.Ports)]...)
	}
	return l
}

// What is handed in is not changed; what is told is new memory, each time.
func TestMemory(t *testing.T) {
	led(199, 2000, func(_ chance, a asked) {
		x, rooms := roomy(a), roomy(a).rooms()
		first := x.answer()
		second := x.answer()
		if !first.is(second) || !prov.Same(x.p, a.p) || !slices.Equal(x.g, a.g) || !slices.Equal(x.b.Rest, a.b.Rest) || !slices.Equal(x.rooms(), rooms) {
			t.Fatalf("changed: %+v: %+v", a, x)
		}
		want := slices.Clone(first.out)
		for i := range first.out[:cap(first.out)] {
			first.out[:cap(first.out)][i] = -77
		}
		if !slices.Equal(second.out, want) || !prov.Same(x.p, a.p) || !slices.Equal(x.rooms(), rooms) {
			t.Fatalf("shared: %+v: %v", a, second)
		}
		for _, m := range x.p.Members {
			for i := range m.Ports {
				m.Ports[i] = -77
			}
		}
		if !slices.Equal(second.out, want) {
			t.Fatalf("kept: %+v: %v", a, second)
		}
	})
	tree := api.Tree{P: make([]api.Port, 3)}
	one, two := Gates(tree), Gates(tree)
	one[0].Learns = true
	if two[0].Learns || tree.P[0].Learning {
		t.Error("gates shared")
	}
}
