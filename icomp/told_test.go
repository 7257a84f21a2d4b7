package icomp

import (
	"bytes"
	"math/rand"
	"slices"
	"testing"

	"pontage/api"
	"pontage/ether"
	"pontage/pbb"
	"pontage/prov"
)

// What the document says, said again without the package and the layers below: of bytes.

// asked is a frame at a bridge, and all that is asked of it.
type asked struct {
	p     api.Prov
	port  int
	f     api.Frame
	known api.MAC
	has   bool
	b     api.BFrame
}

// told is what is answered.
type told struct {
	isid                        int
	classify, encap, out, local api.Why
	b                           api.BFrame
	decaps, locals              []api.Copy
}

func (a asked) answer() told {
	var w told
	w.isid, w.classify = Classify(a.p, a.port, a.f)
	w.b, w.encap = Encap(a.p, a.port, a.f, a.known, a.has)
	w.decaps, w.out = Decap(a.p, a.b)
	w.locals, w.local = Local(a.p, a.port, a.f)
	return w
}

func (w told) is(v told) bool {
	return w.isid == v.isid && w.classify == v.classify && w.encap == v.encap && w.out == v.out && w.local == v.local &&
		sameHidden(w.b, v.b) && sameCopies(w.decaps, v.decaps) && sameCopies(w.locals, v.locals)
}

func isOne(m api.MAC) bool { return m[0]&1 == 0 && m != api.MAC{} }

func isTag(s api.Tag) bool {
	return s.PCP >= 0 && s.PCP < 8 && s.VID > 0 && s.VID < 4095
}

func isInside(da, sa api.MAC, rest []byte) bool {
	return isOne(sa) && da != api.MAC{} && len(rest) > 1 && (rest[0] != 0x88 || rest[1] != 0xa8)
}

// copyOf is what goes to a customer.
func copyOf(port, vid int, s api.Tag, da, sa api.MAC, rest []byte) api.Copy {
	n := s.PCP<<13 | vid
	if s.DEI {
		n |= 1 << 12
	}
	return api.Copy{Port: port, Bytes: slices.Concat(da[:], sa[:], []byte{0x88, 0xa8, byte(n >> 8), byte(n)}, rest)}
}

// to are copies for all that a service has, but for one port, once to each.
func (a asked) to(isid int, but func(port int) bool, s api.Tag, da, sa api.MAC, rest []byte) []api.Copy {
	var l []api.Copy
	first := map[int]int{}
	for _, m := range slices.Backward(a.p.Maps) {
		if m.ISID == isid {
			first[m.Port] = m.VID
		}
	}
	for _, m := range a.p.Maps {
		vid, is := first[m.Port]
		if m.ISID != isid || !is || but(m.Port) {
			continue
		}
		delete(first, m.Port)
		if vid >= 1 && vid <= 4094 {
			l = append(l, copyOf(m.Port, vid, s, da, sa, rest))
		}
	}
	return l
}

// want is what the document asks.
func (a asked) want() told {
	var w told
	w.isid, w.classify = a.wantService()
	w.encap, w.local = w.classify, w.classify
	if w.classify == api.NoWhy {
		w.b, w.encap = a.wantHidden(w.isid)
		w.locals = a.to(w.isid, func(port int) bool { return port == a.port }, a.f.S, a.f.DA, a.f.SA, a.f.Rest)
		if len(w.locals) == 0 {
			w.local = api.Nobody
		}
	}
	i := a.b.I
	switch {
	case len(a.b.Rest) > 1502:
		w.out = api.BigFrame
	case !isOne(a.b.SA) || a.b.DA == api.MAC{} || !isTag(a.b.B) || i.PCP < 0 || i.PCP > 7 || i.ISID < 1 || i.ISID >= 1<<24 || !isInside(i.DA, i.SA, a.b.Rest):
		w.out = api.BadFrame
	case !slices.ContainsFunc(a.p.Maps, func(m api.Map) bool { return m.ISID == i.ISID }):
		w.out = api.NoService
	default:
		w.decaps = a.to(i.ISID, func(int) bool { return false }, api.Tag{PCP: i.PCP, DEI: i.DEI}, i.DA, i.SA, a.b.Rest)
	}
	return w
}

func (a asked) wantService() (int, api.Why) {
	f := a.f
	may := isOne(f.SA) && f.DA != api.MAC{} && len(f.Rest) > 1
	if f.Tagged {
		may = may && isTag(f.S)
	} else {
		may = may && f.S == api.Tag{} && isInside(f.DA, f.SA, f.Rest)
	}
	if len(f.Rest) > 1502 {
		return 0, api.BigFrame
	}
	if !may {
		return 0, api.BadFrame
	}
	for _, m := range a.p.Maps {
		if f.Tagged && m.Port == a.port && m.VID == f.S.VID {
			return m.ISID, api.NoWhy
		}
	}
	return 0, api.NoService
}

func (a asked) wantHidden(isid int) (api.BFrame, api.Why) {
	f := a.f
	i := slices.IndexFunc(a.p.Carries, func(c api.Carry) bool { return c.ISID == isid })
	if i < 0 {
		return api.BFrame{}, api.NoService
	}
	s := api.Tag{PCP: f.S.PCP, DEI: f.S.DEI, VID: a.p.Carries[i].VID}
	if !isOne(a.p.Own) || !isTag(s) || isid < 1 || isid >= 1<<24 || !isInside(f.DA, f.SA, f.Rest) {
		return api.BFrame{}, api.BadFrame
	}
	to := api.MAC{1, 0x1e, 0x83, byte(isid >> 16), byte(isid >> 8), byte(isid)}
	if a.has && isOne(f.DA) && isOne(a.known) {
		to = a.known
	}
	return api.BFrame{DA: to, SA: a.p.Own, B: s, I: api.ITag{PCP: s.PCP, DEI: s.DEI, UCA: true, ISID: isid, DA: f.DA, SA: f.SA}, Rest: f.Rest}, api.NoWhy
}

// chance makes bridges and frames of few numbers, so that they meet.
type chance struct{ *rand.Rand }

func (r chance) seldom() bool { return r.Intn(20) == 0 }

func (r chance) port() int { return r.Intn(6) }

func (r chance) vid() int { return []int{1, 2, 3, 100, 4094}[r.Intn(5)] }

func (r chance) isid() int { return []int{1, 5000, 6000, 1<<24 - 1}[r.Intn(4)] }

// odd is a number that seldom may be.
func (r chance) odd(may int) int {
	if r.seldom() {
		return []int{-1, 0, 7, 8, 4095, 4096, 1 << 24, -5000}[r.Intn(8)]
	}
	return may
}

func (r chance) address() api.MAC {
	l := append(slices.Clone(toMany), own, far, sender, hearer, none)
	if r.Intn(2) == 0 {
		return api.MAC{2, 0, 0, 0, 0, byte(r.Intn(3))}
	}
	return l[r.Intn(len(l))]
}

// single is an address of a station, seldom another one.
func (r chance) single() api.MAC {
	if r.seldom() {
		return r.address()
	}
	return api.MAC{byte(r.Intn(128) * 2), 9, byte(r.Intn(256)), 0, 0, byte(r.Intn(3))}
}

func (r chance) rest() []byte {
	n := 2 + r.Intn(20)
	if r.Intn(40) == 0 {
		n = []int{0, 1, 2, 1501, 1502, 1503, 1504}[r.Intn(7)]
	}
	b := make([]byte, n)
	r.Read(b)
	if n > 1 && r.seldom() {
		b[0], b[1] = 0x88, []byte{0xa8, 0xe7}[r.Intn(2)]
	}
	return b
}

func (r chance) tag() api.Tag {
	return api.Tag{PCP: r.odd(r.Intn(8)), DEI: r.Intn(2) == 0, VID: r.odd(r.vid())}
}

// good is what may be provisioned, by commands.
func (r chance) good() api.Prov {
	p := api.Prov{Own: api.MAC{2, 0, 0, 0, 1, byte(1 + r.Intn(250))}}
	for range 6 {
		p.Kinds = append(p.Kinds, []api.PortKind{api.Customer, api.Customer, api.Backbone}[r.Intn(3)])
	}
	for _, vid := range []int{10, 20} {
		p, _ = prov.Do(p, api.Command{Kind: api.SetMember, Member: api.Member{VID: vid}})
	}
	for range 4 {
		p, _ = prov.Do(p, api.Command{Kind: api.AddCarry, Carry: api.Carry{ISID: r.isid(), VID: 10 + 10*r.Intn(2)}})
	}
	for range 20 {
		p, _ = prov.Do(p, api.Command{Kind: api.AddMap, Map: api.Map{Port: r.port(), VID: r.vid(), ISID: r.isid()}})
	}
	return p
}

// any is what may stand there by hand: rows that do not rise, that are there twice, of numbers that may not be.
func (r chance) any() api.Prov {
	p := api.Prov{Own: r.single()}
	for range r.Intn(12) {
		p.Maps = append(p.Maps, api.Map{Port: r.odd(r.port()), VID: r.odd(r.vid()), ISID: r.odd(r.isid())})
	}
	for range r.Intn(8) {
		p.Carries = append(p.Carries, api.Carry{ISID: r.odd(r.isid()), VID: r.odd(r.vid())})
	}
	return p
}

// ask is one of p, most of the time of one of its attachments.
func (r chance) ask(p api.Prov) asked {
	a := asked{p: p, port: r.odd(r.port()), known: r.address(), has: r.Intn(3) > 0}
	a.f = api.Frame{DA: r.address(), SA: r.single(), Tagged: !r.seldom(), S: r.tag(), Rest: r.rest()}
	a.b = api.BFrame{DA: r.address(), SA: r.single(), B: r.tag(), Rest: r.rest()}
	a.b.I = api.ITag{PCP: r.odd(r.Intn(8)), DEI: r.Intn(2) == 0, UCA: r.Intn(2) == 0, ISID: r.odd(r.isid()), DA: r.address(), SA: r.single()}
	if len(p.Maps) > 0 && r.Intn(4) > 0 {
		m := p.Maps[r.Intn(len(p.Maps))]
		a.port, a.f.S.VID = m.Port, m.VID
	}
	if !a.f.Tagged && r.Intn(2) == 0 {
		a.f.S = api.Tag{}
	}
	return a
}

// led are frames by chance, at bridges that may be, and at others.
func led(seed int64, n int, each func(r chance, a asked)) {
	r := chance{rand.New(rand.NewSource(seed))}
	for i := range n {
		p := r.good()
		if i%3 == 0 {
			p = r.any()
		}
		for range 10 {
			each(r, r.ask(p))
		}
	}
}

func bit(is bool) int {
	if is {
		return 1
	}
	return 0
}

// P20.1 to P20.4: frames by chance, against the chapter's words said again; all answers come about, often.
func TestTold(t *testing.T) {
	var classify, encap, out, local [api.MaxWhy + 1]int
	var known, several, twice, fewer int
	led(20, 10000, func(_ chance, a asked) {
		got, want := a.answer(), a.want()
		if !got.is(want) {
			t.Fatalf("%+v: %+v, not %+v", a, got, want)
		}
		classify[got.classify]++
		encap[got.encap]++
		out[got.out]++
		local[got.local]++
		known += bit(got.encap == api.NoWhy && got.b.DA == a.known)
		several += bit(len(got.decaps) > 1 && len(got.locals) > 1)
		ports := prov.Attached(a.p, a.b.I.ISID)
		slices.Sort(ports)
		once := slices.Compact(slices.Clone(ports))
		twice += bit(len(ports) > len(once) && len(got.decaps) > 0)
		fewer += bit(len(once) > len(got.decaps) && len(got.decaps) > 0)
	})
	for _, why := range []api.Why{api.NoWhy, api.BadFrame, api.BigFrame, api.NoService} {
		if min(classify[why], encap[why], out[why], local[why]) < 500 {
			t.Error("seldom", why, classify[why], encap[why], out[why], local[why])
		}
	}
	if min(local[api.Nobody], known, several, twice, fewer) < 500 {
		t.Error(local[api.Nobody], known, several, twice, fewer)
	}
}

// P20.1: Read, bytes by chance, and bytes of frames of which one is turned: what ether tells of them.
func TestReadTold(t *testing.T) {
	var count [api.MaxWhy + 1]int
	led(201, 3000, func(r chance, a asked) {
		b := append(make([]byte, 0, 2000), a.f.DA[:]...)
		b = append(b, a.f.SA[:]...)
		if a.f.Tagged {
			b = append(b, 0x88, 0xa8, byte(a.f.S.PCP<<5|a.f.S.VID>>8), byte(a.f.S.VID))
		}
		b = append(b, a.f.Rest...)
		if r.seldom() {
			b = b[:r.Intn(len(b)+1)]
		}
		was := slices.Clone(b)
		f, why := Read(b)
		want, e := ether.Decode(was)
		switch {
		case e == api.ErrLong && why != api.BigFrame, e != api.OK && e != api.ErrLong && why != api.BadFrame, e == api.OK && why != api.NoWhy, !sameFrame(f, want), !bytes.Equal(b, was):
			t.Fatal(b, f, why, e)
		}
		count[why]++
		if why == api.NoWhy {
			clear(b[:cap(b)])
			if !sameFrame(f, want) {
				t.Fatal("kept", f, want)
			}
		}
	})
	if min(count[api.NoWhy], count[api.BadFrame], count[api.BigFrame]) < 200 {
		t.Error(count)
	}
}

// P20.5: what is encapsulated at one bridge, goes as bytes, and is decapsulated at another one, comes to each port that is attached there, with that port's VLAN, and else the same bytes; so it does to others of the first bridge.
func TestThrough(t *testing.T) {
	came, here := 0, 0
	led(205, 10000, func(r chance, a asked) {
		b, why := Encap(a.p, a.port, a.f, a.known, a.has)
		if why != api.NoWhy {
			return
		}
		wire, e := pbb.Encode(b)
		there, e2 := pbb.Decode(wire)
		q := r.good()
		ports := prov.Attached(q, b.I.ISID)
		l, why := Decap(q, there)
		if e != api.OK || e2 != api.OK || len(l) != len(ports) || (why == api.NoService) != (len(ports) == 0) {
			t.Fatal(e, e2, l, why)
		}
		was, _ := ether.Encode(a.f)
		for i, c := range l {
			vid, ok := prov.VIDOf(q, ports[i], b.I.ISID)
			f, e := ether.Decode(c.Bytes)
			if c.Port != ports[i] || !ok || e != api.OK || f.S.VID != vid || !sameButVLAN(c.Bytes, was) {
				t.Fatal(i, c, ports, was)
			}
			came++
		}
		l, _ = Local(a.p, a.port, a.f)
		for _, c := range l {
			if !sameButVLAN(c.Bytes, was) {
				t.Fatal(c, was)
			}
			here++
		}
	})
	if came < 10000 || here < 10000 {
		t.Error(came, here)
	}
}

// sameButVLAN tells whether the bytes of two frames are the same, but for the twelve bits of their VLANs.
func sameButVLAN(a, b []byte) bool {
	return len(a) == len(b) && len(a) >= 16 && bytes.Equal(a[:14], b[:14]) && a[14]>>4 == b[14]>>4 && bytes.Equal(a[16:], b[16:])
}

// P20.6: no copy goes to a port that is not attached to the frame's service, with no VLAN but the one under which it is attached, nor back.
func TestApart(t *testing.T) {
	went := 0
	led(206, 10000, func(_ chance, a asked) {
		may := func(isid int, l []api.Copy, but func(port int) bool) {
			for _, c := range l {
				f, e := ether.Decode(c.Bytes)
				m := api.Map{Port: c.Port, VID: f.S.VID, ISID: isid}
				if e != api.OK || !slices.Contains(a.p.Maps, m) || but(c.Port) {
					t.Fatal(isid, c, a)
				}
				went++
			}
		}
		l, _ := Decap(a.p, a.b)
		may(a.b.I.ISID, l, func(int) bool { return false })
		isid, _ := Classify(a.p, a.port, a.f)
		l, _ = Local(a.p, a.port, a.f)
		may(isid, l, func(port int) bool { return port == a.port })
	})
	if went < 50000 {
		t.Error(went)
	}
}

// P20.6: nor does what other services have turn anything of it: rows that are there by chance.
func TestApartRows(t *testing.T) {
	turned := 0
	led(207, 10000, func(r chance, a asked) {
		isid, why := Classify(a.p, a.port, a.f)
		if why != api.NoWhy || prov.Check(a.p) != api.OK {
			return
		}
		a.b.I.ISID = isid
		was, x := a.answer(), a
		for range 6 {
			c := api.Command{
				Kind:   []api.CmdKind{api.AddMap, api.DelMap, api.AddCarry, api.DelCarry}[r.Intn(4)],
				Map:    api.Map{Port: r.port(), VID: r.vid(), ISID: r.isid()},
				Carry:  api.Carry{ISID: r.isid(), VID: 10},
				Member: api.Member{},
			}
			if c.Map.ISID == isid || c.Carry.ISID == isid {
				continue
			}
			x.p, _ = prov.Do(x.p, c)
		}
		if now := x.answer(); !now.is(was) {
			t.Fatalf("%+v: %+v; %+v: %+v", a, was, x.p, now)
		}
		turned += bit(!prov.Same(a.p, x.p))
	})
	if turned < 5000 {
		t.Error(turned)
	}
}

// P20.7: whoever a frame is for, it goes the same ways: what is hidden and what comes out differ in its address alone, but that to more than one goes to the service's group.
func TestAllAlike(t *testing.T) {
	went := 0
	led(208, 4000, func(_ chance, a asked) {
		a.f.DA, a.b.I.DA = hearer, hearer
		one := a.answer()
		for _, da := range append(slices.Clone(toMany), own, sender, far) {
			a.f.DA, a.b.I.DA = da, da
			now, want := a.answer(), twin(one)
			if want.encap == api.NoWhy {
				want.b.I.DA = da
				if da[0]&1 == 1 {
					want.b.DA = Group(one.isid)
				}
			}
			for _, c := range slices.Concat(want.decaps, want.locals) {
				copy(c.Bytes, da[:])
				went++
			}
			if !now.is(want) {
				t.Fatalf("%v: %+v: %+v, not %+v", da, a, now, want)
			}
		}
	})
	if went < 100000 {
		t.Error(went)
	}
}

// twin is the same told again, in memory of its own.
func twin(w told) told {
	w.b.Rest = slices.Clone(w.b.Rest)
	w.decaps, w.locals = slices.Clone(w.decaps), slices.Clone(w.locals)
	for _, l := range [][]api.Copy{w.decaps, w.locals} {
		for i := range l {
			l[i].Bytes = slices.Clone(l[i].Bytes)
		}
	}
	return w
}

// roomy is a twin of what is asked, with room behind each list, into which one that appends would write.
func roomy(a asked) asked {
	x := a
	x.f.Rest = append(make([]byte, 0, len(a.f.Rest)+40), a.f.Rest...)
	x.b.Rest = append(make([]byte, 0, len(a.b.Rest)+40), a.b.Rest...)
	x.p.Kinds = append(make([]api.PortKind, 0, 40), a.p.Kinds...)
	x.p.Maps = append(make([]api.Map, 0, 40), a.p.Maps...)
	x.p.Carries = append(make([]api.Carry, 0, 40), a.p.Carries...)
	x.p.Members = append(make([]api.Member, 0, 40), a.p.Members...)
	return x
}

// wholes are the lists with the room behind them.
func (a asked) wholes() ([]byte, []byte, []api.Map, []api.Carry) {
	return a.f.Rest[:cap(a.f.Rest)], a.b.Rest[:cap(a.b.Rest)], a.p.Maps[:cap(a.p.Maps)], a.p.Carries[:cap(a.p.Carries)]
}

func sameWholes(a, b asked) bool {
	f, g, m, c := a.wholes()
	f2, g2, m2, c2 := b.wholes()
	return bytes.Equal(f, f2) && bytes.Equal(g, g2) && slices.Equal(m, m2) && slices.Equal(c, c2)
}

// spoil writes into all of an answer's lists, and into the room behind them.
func (w told) spoil() {
	all := [][]byte{w.b.Rest}
	for _, l := range [][]api.Copy{w.decaps, w.locals} {
		for _, c := range l {
			all = append(all, c.Bytes)
		}
	}
	for _, b := range all {
		for i := range b[:cap(b)] {
			b[:cap(b)][i] ^= 0xff
		}
	}
	for _, l := range [][]api.Copy{w.decaps, w.locals} {
		for i := range l[:cap(l)] {
			l[:cap(l)][i] = api.Copy{Port: -77}
		}
	}
}

// spoil writes into all lists that were handed in, and into the room behind them.
func (a asked) spoil() {
	f, b, maps, carries := a.wholes()
	for _, l := range [][]byte{f, b} {
		for i := range l {
			l[i] ^= 0xff
		}
	}
	for i := range maps {
		maps[i] = api.Map{Port: -77}
	}
	clear(carries)
}

// What is handed in is not changed and not kept; what is told is new memory, each time, and no two copies share any.
func TestMemory(t *testing.T) {
	led(209, 2000, func(_ chance, a asked) {
		x, is := roomy(a), roomy(a)
		first, second := x.answer(), x.answer()
		if !first.is(second) || !prov.Same(x.p, a.p) || !sameWholes(x, is) {
			t.Fatalf("changed: %+v: %+v", a, x)
		}
		want := twin(second)
		first.spoil()
		if !second.is(want) || !sameWholes(x, is) || !prov.Same(x.p, a.p) {
			t.Fatalf("shared: %+v: %+v", a, second)
		}
		x.spoil()
		if !second.is(want) {
			t.Fatalf("kept: %+v: %+v", a, second)
		}
		for _, l := range [][]api.Copy{second.decaps, second.locals} {
			for i := range l {
				b := l[i].Bytes
				clear(b[:cap(b)])
				if i+1 < len(l) && bytes.Count(l[i+1].Bytes, []byte{0}) == len(l[i+1].Bytes) {
					t.Fatalf("copies share: %+v", a)
				}
			}
		}
	})
}
