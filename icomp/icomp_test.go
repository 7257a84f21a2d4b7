package icomp

import (
	"bytes"
	"math"
	"slices"
	"testing"

	"pontage/api"
	"pontage/prov"
)

var (
	own    = api.MAC{2, 0, 0, 0, 1, 1}
	far    = api.MAC{2, 0, 0, 0, 1, 9} // another bridge
	sender = api.MAC{2, 0, 0, 0, 0, 8} // a customer
	hearer = api.MAC{4, 0, 0, 0, 0, 7} // another one
	none   = api.MAC{}
	all    = api.MAC{255, 255, 255, 255, 255, 255}
	bridge = api.MAC{1, 0x80, 0xc2, 0, 0, 0}
	last   = api.MAC{1, 0x80, 0xc2, 0, 0, 15}
	beyond = api.MAC{1, 0x80, 0xc2, 0, 0, 16}
	group  = api.MAC{3, 0, 0, 0, 0, 1}
	of5000 = api.MAC{1, 0x1e, 0x83, 0, 0x13, 0x88}
	of6000 = api.MAC{1, 0x1e, 0x83, 0, 0x17, 0x70}
)

// toMany are addresses of more than one station.
var toMany = []api.MAC{all, bridge, last, beyond, group, of5000, of6000, {1}, {255}, {1, 0x1e, 0x83}}

// some is what may be provisioned of a bridge: ports 0, 1, 3, 4 are customers', 2 and 5 the backbone's. Service 5000 is at three ports, 6000 at two, 7000 at one, 8000 at none.
func some() api.Prov {
	c, b := api.Customer, api.Backbone
	return api.Prov{
		Own:   own,
		Kinds: []api.PortKind{c, c, b, c, c, b},
		Maps: []api.Map{
			{Port: 0, VID: 100, ISID: 5000}, {Port: 0, VID: 101, ISID: 6000},
			{Port: 1, VID: 1, ISID: 6000}, {Port: 1, VID: 200, ISID: 5000},
			{Port: 3, VID: 100, ISID: 7000}, {Port: 3, VID: 4094, ISID: 5000},
			{Port: 4, VID: 4094, ISID: 1<<24 - 1},
		},
		Carries: []api.Carry{{ISID: 5000, VID: 10}, {ISID: 6000, VID: 20}, {ISID: 7000, VID: 10}, {ISID: 8000, VID: 20}, {ISID: 1<<24 - 1, VID: 4094}},
		Members: []api.Member{{VID: 10, Ports: []int{2}}, {VID: 20, Ports: []int{2, 5}}, {VID: 4094}},
	}
}

// hand is what nobody may provision: a service without a carrier (9000), ones that there are not (0, -5, 2^24), VLANs that there are not, a port twice.
func hand() api.Prov {
	return api.Prov{
		Own: own,
		Maps: []api.Map{
			{Port: 7, VID: 300, ISID: 5000}, {Port: 0, VID: 100, ISID: 5000}, {Port: 7, VID: 301, ISID: 5000},
			{Port: 2, VID: 0, ISID: 5000}, {Port: -1, VID: 5, ISID: 5000}, {Port: 3, VID: 4095, ISID: 5000}, {Port: 0, VID: 100, ISID: 6000},
			{Port: 0, VID: 90, ISID: 9000}, {Port: 1, VID: 90, ISID: 9000},
			{Port: 0, VID: 91, ISID: 0}, {Port: 0, VID: 92, ISID: -5}, {Port: 0, VID: 93, ISID: 1 << 24}, {Port: 0, VID: 94, ISID: 9400}, {Port: 0, VID: 95, ISID: 9500},
			{Port: 1, VID: 4095, ISID: 9400},
		},
		Carries: []api.Carry{{ISID: 5000, VID: 10}, {ISID: 5000, VID: 11}, {ISID: 0, VID: 10}, {ISID: -5, VID: 10}, {ISID: 1 << 24, VID: 10}, {ISID: 9400, VID: 0}, {ISID: 9500, VID: 4095}},
	}
}

// frame is one of a VLAN.
func frame(da api.MAC, vid int) api.Frame {
	return api.Frame{DA: da, SA: sender, Tagged: true, S: api.Tag{PCP: 5, DEI: true, VID: vid}, Rest: []byte{8, 0, 1, 2}}
}

// bare is one of none.
func bare() api.Frame {
	return api.Frame{DA: hearer, SA: sender, Rest: []byte{8, 0, 1, 2}}
}

// hidden is a backbone frame of a service.
func hidden(isid int) api.BFrame {
	return api.BFrame{
		DA: own, SA: far, B: api.Tag{PCP: 1, VID: 10},
		I:    api.ITag{PCP: 5, DEI: true, UCA: true, ISID: isid, DA: hearer, SA: sender},
		Rest: []byte{8, 0, 1, 2},
	}
}

// raw are the bytes of a frame to hearer whose tag is these two bytes.
func raw(one, two byte) []byte {
	b := slices.Concat(hearer[:], sender[:])
	return append(b, 0x88, 0xa8, one, two, 8, 0, 1, 2)
}

func sameFrame(a, b api.Frame) bool {
	return a.DA == b.DA && a.SA == b.SA && a.Tagged == b.Tagged && a.S == b.S && bytes.Equal(a.Rest, b.Rest)
}

func sameHidden(a, b api.BFrame) bool {
	return a.DA == b.DA && a.SA == b.SA && a.B == b.B && a.I == b.I && bytes.Equal(a.Rest, b.Rest)
}

func sameCopies(a, b []api.Copy) bool {
	return slices.EqualFunc(a, b, func(x, y api.Copy) bool { return x.Port == y.Port && bytes.Equal(x.Bytes, y.Bytes) })
}

// All tests lean on that: what is provisioned may be, or may not.
func TestSome(t *testing.T) {
	if e := prov.Check(some()); e != api.OK {
		t.Error(e)
	}
	if e := prov.Check(hand()); e != api.ErrProv {
		t.Error(e)
	}
}

// P20.1: Read, frames that may be, tagged and not, the least and the most.
func TestReadGood(t *testing.T) {
	head := slices.Concat(hearer[:], sender[:])
	most := bytes.Repeat([]byte{7}, 1502)
	for i, c := range []struct {
		b []byte
		f api.Frame
	}{
		{raw(0xb0, 100), frame(hearer, 100)},
		{slices.Concat(head, []byte{8, 0, 1, 2}), bare()},
		{slices.Concat(head, []byte{0, 0}), api.Frame{DA: hearer, SA: sender, Rest: []byte{0, 0}}},
		{slices.Concat(head, most), api.Frame{DA: hearer, SA: sender, Rest: most}},
		{slices.Concat(head, []byte{0x88, 0xa8, 0x0f, 0xfe}, most), api.Frame{DA: hearer, SA: sender, Tagged: true, S: api.Tag{VID: 4094}, Rest: most}},
	} {
		if f, why := Read(c.b); why != api.NoWhy || !sameFrame(f, c.f) {
			t.Error(i, f, why)
		}
	}
}

// P20.1: Read, bytes of no frame: too many, or else wrong.
func TestReadBad(t *testing.T) {
	head := slices.Concat(hearer[:], sender[:])
	more := bytes.Repeat([]byte{7}, 1503)
	for i, c := range []struct {
		b   []byte
		why api.Why
	}{
		{nil, api.BadFrame},
		{[]byte{1, 2, 3}, api.BadFrame},
		{slices.Concat(head, []byte{8}), api.BadFrame},
		{raw(0xb0, 100)[:17], api.BadFrame},
		{raw(0, 0), api.BadFrame},
		{raw(0x0f, 0xff), api.BadFrame},
		{slices.Concat(make([]byte, 6), sender[:], []byte{8, 0}), api.BadFrame},
		{slices.Concat(hearer[:], make([]byte, 6), []byte{8, 0}), api.BadFrame},
		{slices.Concat(hearer[:], all[:], []byte{8, 0}), api.BadFrame},
		{slices.Concat(head, more), api.BigFrame},
		{slices.Concat(head, []byte{0x88, 0xa8, 0, 1}, more), api.BigFrame},
		{slices.Concat(make([]byte, 12), more), api.BigFrame},
		{make([]byte, 1<<16), api.BigFrame},
	} {
		if f, why := Read(c.b); why != c.why || !sameFrame(f, api.Frame{}) {
			t.Error(i, f, why)
		}
	}
}

// P20.1: Classify, the service of each attachment, by port and VLAN both.
func TestClassifyGood(t *testing.T) {
	for _, m := range some().Maps {
		f := frame(hearer, m.VID)
		for _, rest := range [][]byte{{0, 0}, {8, 0, 1}, {0x88, 0xa8, 0, 1}, make([]byte, 1502)} {
			f.Rest = rest
			if isid, why := Classify(some(), m.Port, f); why != api.NoWhy || isid != m.ISID {
				t.Error(m, len(rest), isid, why)
			}
		}
	}
	if isid, why := Classify(hand(), 0, frame(hearer, 100)); why != api.NoWhy || isid != 5000 {
		t.Error(isid, why)
	}
	if isid, why := Classify(hand(), -1, frame(hearer, 5)); why != api.NoWhy || isid != 5000 {
		t.Error(isid, why)
	}
	if isid, why := Classify(hand(), 1, frame(hearer, 90)); why != api.NoWhy || isid != 9000 {
		t.Error(isid, why) // it has a service there, though no backbone VLAN
	}
	if isid, why := Classify(hand(), 0, frame(hearer, 92)); why != api.NoWhy || isid != -5 {
		t.Error(isid, why)
	}
}

// wrong are frames that may not be, each for one cause, and their reasons.
func wrong() map[api.Why][]api.Frame {
	l := map[api.Why][]api.Frame{}
	change := func(why api.Why, by func(f *api.Frame)) {
		f := frame(hearer, 100)
		by(&f)
		l[why] = append(l[why], f)
	}
	for _, vid := range []int{0, -1, 4095, 4096 + 100, math.MinInt, math.MaxInt} {
		change(api.BadFrame, func(f *api.Frame) { f.S.VID = vid })
	}
	for _, pcp := range []int{-1, 8, math.MinInt, math.MaxInt} {
		change(api.BadFrame, func(f *api.Frame) { f.S.PCP = pcp })
	}
	for _, sa := range append(slices.Clone(toMany), none) {
		change(api.BadFrame, func(f *api.Frame) { f.SA = sa })
	}
	change(api.BadFrame, func(f *api.Frame) { f.DA = none })
	change(api.BadFrame, func(f *api.Frame) { f.Rest = nil })
	change(api.BadFrame, func(f *api.Frame) { f.Rest = []byte{8} })
	change(api.BadFrame, func(f *api.Frame) { f.Tagged = false })
	change(api.BadFrame, func(f *api.Frame) { *f = bare(); f.Rest = []byte{0x88, 0xa8} })
	change(api.BadFrame, func(f *api.Frame) { *f = api.Frame{} })
	change(api.BigFrame, func(f *api.Frame) { f.Rest = make([]byte, 1503) })
	change(api.BigFrame, func(f *api.Frame) { *f = bare(); f.Rest = make([]byte, 1503) })
	change(api.BigFrame, func(f *api.Frame) { f.SA, f.DA, f.S.VID, f.Rest = none, none, 0, make([]byte, 1<<16) })
	for _, vid := range []int{1, 99, 102, 200, 4094} {
		change(api.NoService, func(f *api.Frame) { f.S.VID = vid })
	}
	change(api.NoService, func(f *api.Frame) { *f = bare() })
	return l
}

// P20.1, P20.2, P20.4: what may not be, and what has no service, is that to Encap and to Local too, with nothing beside.
func TestClassifyBad(t *testing.T) {
	for why, list := range wrong() {
		for i, f := range list {
			isid, w := Classify(some(), 0, f)
			if w != why || isid != 0 {
				t.Error(why, i, isid, w)
			}
			b, w := Encap(some(), 0, f, far, true)
			if w != why || !sameHidden(b, api.BFrame{}) {
				t.Error(why, i, b, w)
			}
			l, w := Local(some(), 0, f)
			if w != why || len(l) != 0 {
				t.Error(why, i, l, w)
			}
		}
	}
}

// P20.1, P20.2, P20.4: at any other port the same VLAN is of no service.
func TestClassifyElsewhere(t *testing.T) {
	for _, port := range []int{1, 2, 4, 5, 6, -1, math.MinInt, math.MaxInt} {
		f := frame(hearer, 100)
		if isid, why := Classify(some(), port, f); why != api.NoService || isid != 0 {
			t.Error(port, isid, why)
		}
		if b, why := Encap(some(), port, f, far, true); why != api.NoService || !sameHidden(b, api.BFrame{}) {
			t.Error(port, b, why)
		}
		if l, why := Local(some(), port, f); why != api.NoService || len(l) != 0 {
			t.Error(port, l, why)
		}
	}
	if isid, why := Classify(api.Prov{}, 0, frame(hearer, 100)); why != api.NoService || isid != 0 {
		t.Error(isid, why)
	}
}

// P20.2: Encap, of the attachment's service, on its VLAN, from the bridge's own, with the frame's priority (example 1).
func TestEncap(t *testing.T) {
	for _, c := range []struct {
		port, vid, isid, over int
		to                    api.MAC
	}{
		{0, 100, 5000, 10, of5000},
		{0, 101, 6000, 20, of6000},
		{1, 1, 6000, 20, of6000},
		{1, 200, 5000, 10, of5000},
		{3, 100, 7000, 10, api.MAC{1, 0x1e, 0x83, 0, 0x1b, 0x58}},
		{3, 4094, 5000, 10, of5000},
		{4, 4094, 1<<24 - 1, 4094, api.MAC{1, 0x1e, 0x83, 0xff, 0xff, 0xff}},
	} {
		for pcp := range 8 {
			for _, dei := range []bool{false, true} {
				f := frame(hearer, c.vid)
				f.S.PCP, f.S.DEI = pcp, dei
				want := api.BFrame{
					DA: c.to, SA: own, B: api.Tag{PCP: pcp, DEI: dei, VID: c.over},
					I:    api.ITag{PCP: pcp, DEI: dei, UCA: true, ISID: c.isid, DA: hearer, SA: sender},
					Rest: []byte{8, 0, 1, 2},
				}
				if b, why := Encap(some(), c.port, f, none, false); why != api.NoWhy || !sameHidden(b, want) {
					t.Error(c, pcp, dei, b, why)
				}
			}
		}
	}
}

// P20.2: to whom: the address known, where there is one, of one station, and the frame is to one; else the service's group.
func TestEncapTo(t *testing.T) {
	ones := []api.MAC{hearer, sender, own, far, {0, 0x80, 0xc2}, {254, 255, 255, 255, 255, 255}, {5: 1}}
	for _, da := range slices.Concat(ones, toMany) {
		for _, known := range slices.Concat(ones, toMany, []api.MAC{none}) {
			for _, has := range []bool{false, true} {
				want := of5000
				if has && slices.Contains(ones, da) && slices.Contains(ones, known) {
					want = known
				}
				b, why := Encap(some(), 0, frame(da, 100), known, has)
				if why != api.NoWhy || b.DA != want || b.I.DA != da || b.SA != own {
					t.Error(da, known, has, b, why)
				}
			}
		}
	}
}

// P20.2: a service without a backbone VLAN is none; what can't be hidden is bad, whether anything is known or not.
func TestEncapBad(t *testing.T) {
	for _, c := range []struct {
		vid int
		why api.Why
	}{{100, api.NoWhy}, {90, api.NoService}, {91, api.BadFrame}, {92, api.BadFrame}, {93, api.BadFrame}, {94, api.BadFrame}, {95, api.BadFrame}} {
		for _, has := range []bool{false, true} {
			b, why := Encap(hand(), 0, frame(hearer, c.vid), far, has)
			if why != c.why || why != api.NoWhy && !sameHidden(b, api.BFrame{}) {
				t.Error(c, b, why)
			}
		}
	}
	f := frame(hearer, 100)
	f.Rest = []byte{0x88, 0xa8, 0, 1} // may be, but not inside
	if b, why := Encap(some(), 0, f, far, true); why != api.BadFrame || !sameHidden(b, api.BFrame{}) {
		t.Error(b, why)
	}
	f.S.VID = 90 // no backbone VLAN wins
	if b, why := Encap(hand(), 0, f, far, true); why != api.NoService || !sameHidden(b, api.BFrame{}) {
		t.Error(b, why)
	}
	for _, m := range append(slices.Clone(toMany), none) {
		p := some()
		p.Own = m
		if b, why := Encap(p, 0, frame(hearer, 100), far, true); why != api.BadFrame || !sameHidden(b, api.BFrame{}) {
			t.Error(m, b, why)
		}
	}
	if b, why := Encap(hand(), 0, frame(hearer, 100), far, true); why != api.NoWhy || b.B.VID != 10 {
		t.Error(b, why) // of two Carries the first
	}
}

// P20.3: Decap, a copy for each port of the service, in order, each with its own VLAN, with the service's tag's priority.
func TestDecap(t *testing.T) {
	for _, c := range []struct {
		isid int
		want []api.Copy
	}{
		{5000, []api.Copy{{Port: 0, Bytes: raw(0xb0, 100)}, {Port: 1, Bytes: raw(0xb0, 200)}, {Port: 3, Bytes: raw(0xbf, 0xfe)}}},
		{6000, []api.Copy{{Port: 0, Bytes: raw(0xb0, 101)}, {Port: 1, Bytes: raw(0xb0, 1)}}},
		{7000, []api.Copy{{Port: 3, Bytes: raw(0xb0, 100)}}},
		{1<<24 - 1, []api.Copy{{Port: 4, Bytes: raw(0xbf, 0xfe)}}},
	} {
		for _, vid := range []int{1, 10, 100, 4094} {
			b := hidden(c.isid)
			b.B = api.Tag{PCP: 2, VID: vid} // is asked by nobody here
			b.I.UCA = vid != 1
			if l, why := Decap(some(), b); why != api.NoWhy || !sameCopies(l, c.want) {
				t.Error(c.isid, vid, l, why)
			}
		}
	}
}

// P20.3: what may not be, and what is attached nowhere, in that order.
func TestDecapBad(t *testing.T) {
	for i, c := range []struct {
		change func(b *api.BFrame)
		why    api.Why
	}{
		{func(b *api.BFrame) { b.Rest = make([]byte, 1502) }, api.NoWhy},
		{func(b *api.BFrame) { b.Rest = make([]byte, 1503) }, api.BigFrame},
		{func(b *api.BFrame) { b.Rest, b.SA, b.I.ISID = make([]byte, 1503), none, 8000 }, api.BigFrame},
		{func(b *api.BFrame) { b.Rest = []byte{8} }, api.BadFrame},
		{func(b *api.BFrame) { b.Rest = nil }, api.BadFrame},
		{func(b *api.BFrame) { b.Rest = []byte{0x88, 0xa8, 0, 1} }, api.BadFrame},
		{func(b *api.BFrame) { b.SA = group }, api.BadFrame},
		{func(b *api.BFrame) { b.DA = none }, api.BadFrame},
		{func(b *api.BFrame) { b.B.VID = 0 }, api.BadFrame},
		{func(b *api.BFrame) { b.B.PCP = 8 }, api.BadFrame},
		{func(b *api.BFrame) { b.I.PCP = -1 }, api.BadFrame},
		{func(b *api.BFrame) { b.I.SA = all }, api.BadFrame},
		{func(b *api.BFrame) { b.I.DA = none }, api.BadFrame},
		{func(b *api.BFrame) { b.I.ISID = 0 }, api.BadFrame},
		{func(b *api.BFrame) { b.I.ISID = 1 << 24 }, api.BadFrame},
		{func(b *api.BFrame) { b.I.ISID = -5000 }, api.BadFrame},
		{func(b *api.BFrame) { b.I.ISID, b.SA = 8000, none }, api.BadFrame},
		{func(b *api.BFrame) { *b = api.BFrame{} }, api.BadFrame},
		{func(b *api.BFrame) { b.I.ISID = 8000 }, api.NoService},
		{func(b *api.BFrame) { b.I.ISID = 1 }, api.NoService},
		{func(b *api.BFrame) { b.I.ISID = 5001 }, api.NoService},
	} {
		b := hidden(5000)
		c.change(&b)
		l, why := Decap(some(), b)
		if why != c.why || (len(l) == 0) != (why != api.NoWhy) {
			t.Error(i, l, why)
		}
	}
	if l, why := Decap(api.Prov{}, hidden(5000)); why != api.NoService || len(l) != 0 {
		t.Error(l, why)
	}
}

// P20.3: what was provisioned by hand: no copy where the VLAN may not be, one where a port stands twice, in the order of the rows; none at all is still no reason.
func TestDecapByHand(t *testing.T) {
	want := []api.Copy{{Port: 7, Bytes: raw(0xb1, 300-256)}, {Port: 0, Bytes: raw(0xb0, 100)}, {Port: -1, Bytes: raw(0xb0, 5)}}
	if l, why := Decap(hand(), hidden(5000)); why != api.NoWhy || !sameCopies(l, want) {
		t.Error(l, why)
	}
	p := api.Prov{Maps: []api.Map{{Port: 3, VID: 0, ISID: 5000}, {Port: 3, VID: 5, ISID: 5000}, {Port: 4, VID: 4095, ISID: 5000}}}
	if l, why := Decap(p, hidden(5000)); why != api.NoWhy || len(l) != 0 {
		t.Error(l, why)
	}
}

// P20.4: Local, a copy for each other port of the service, in order, each with its own VLAN.
func TestLocal(t *testing.T) {
	zero, one, three := api.Copy{Port: 0, Bytes: raw(0xb0, 100)}, api.Copy{Port: 1, Bytes: raw(0xb0, 200)}, api.Copy{Port: 3, Bytes: raw(0xbf, 0xfe)}
	for _, c := range []struct {
		port, vid int
		want      []api.Copy
	}{
		{0, 100, []api.Copy{one, three}},
		{1, 200, []api.Copy{zero, three}},
		{3, 4094, []api.Copy{zero, one}},
		{0, 101, []api.Copy{{Port: 1, Bytes: raw(0xb0, 1)}}},
		{1, 1, []api.Copy{{Port: 0, Bytes: raw(0xb0, 101)}}},
	} {
		if l, why := Local(some(), c.port, frame(hearer, c.vid)); why != api.NoWhy || !sameCopies(l, c.want) {
			t.Error(c, l, why)
		}
	}
	f := frame(hearer, 100)
	f.Rest = []byte{0x88, 0xa8, 8, 0} // can't be hidden, but goes here
	if l, why := Local(some(), 0, f); why != api.NoWhy || len(l) != 2 || !bytes.Equal(l[0].Bytes[16:], f.Rest) {
		t.Error(l, why)
	}
}

// P20.4: nobody: the service has no other port, or none whose VLAN may be.
func TestLocalNobody(t *testing.T) {
	for _, c := range []struct {
		p         api.Prov
		port, vid int
	}{{some(), 3, 100}, {some(), 4, 4094}, {hand(), 0, 94}, {hand(), 0, 91}} {
		if l, why := Local(c.p, c.port, frame(hearer, c.vid)); why != api.Nobody || len(l) != 0 {
			t.Error(c.port, c.vid, l, why)
		}
	}
}

// P20.4: what was provisioned by hand: by whatever of its rows a frame came, its port gets no copy; a service needs no backbone VLAN.
func TestLocalByHand(t *testing.T) {
	seven, zero, less := api.Copy{Port: 7, Bytes: raw(0xb1, 300-256)}, api.Copy{Port: 0, Bytes: raw(0xb0, 100)}, api.Copy{Port: -1, Bytes: raw(0xb0, 5)}
	for _, c := range []struct {
		port, vid int
		want      []api.Copy
	}{
		{7, 300, []api.Copy{zero, less}},
		{7, 301, []api.Copy{zero, less}},
		{0, 100, []api.Copy{seven, less}},
		{-1, 5, []api.Copy{seven, zero}},
		{1, 90, []api.Copy{{Port: 0, Bytes: raw(0xb0, 90)}}},
	} {
		if l, why := Local(hand(), c.port, frame(hearer, c.vid)); why != api.NoWhy || !sameCopies(l, c.want) {
			t.Error(c, l, why)
		}
	}
}

// P20.2: Group, the service's; zeros where there is no such service.
func TestGroup(t *testing.T) {
	for isid, want := range map[int]api.MAC{
		1: {1, 0x1e, 0x83, 0, 0, 1}, 5000: of5000, 6000: of6000, 1<<24 - 1: {1, 0x1e, 0x83, 255, 255, 255},
		0: {}, -1: {}, -5000: {}, 1 << 24: {}, 1<<24 + 5000: {}, math.MinInt: {}, math.MaxInt: {},
	} {
		if m := Group(isid); m != want {
			t.Error(isid, m)
		}
	}
}
