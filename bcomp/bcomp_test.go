package bcomp

import (
	"math"
	"slices"
	"testing"

	"pontage/api"
	"pontage/prov"
)

var (
	own    = api.MAC{2, 0, 0, 0, 0, 1}
	far    = api.MAC{2, 0, 0, 0, 0, 9}
	other  = api.MAC{4, 0, 0, 0, 0, 1}
	none   = api.MAC{}
	all    = api.MAC{255, 255, 255, 255, 255, 255}
	bridge = api.MAC{1, 0x80, 0xc2, 0, 0, 0}
	last   = api.MAC{1, 0x80, 0xc2, 0, 0, 15}
	beyond = api.MAC{1, 0x80, 0xc2, 0, 0, 16}
	group  = api.MAC{3, 0, 0, 0, 0, 1}
	of5000 = api.MAC{1, 0x1e, 0x83, 0, 0x13, 0x88}
)

// toOne are addresses of one station, or of none; toMany are those of more.
var (
	toOne  = []api.MAC{far, other, none, {0, 0x80, 0xc2}, {254, 255, 255, 255, 255, 255}}
	toMany = []api.MAC{all, bridge, last, beyond, group, of5000, {1}, {255}}
)

// some is what may be provisioned of a bridge: ports 0 and 2 are customers', the others the backbone's.
func some() api.Prov {
	c, b := api.Customer, api.Backbone
	return api.Prov{
		Own:     own,
		Kinds:   []api.PortKind{c, b, c, b, b, b, b, b},
		Maps:    []api.Map{{Port: 0, VID: 100, ISID: 5000}, {Port: 2, VID: 100, ISID: 6000}, {Port: 2, VID: 200, ISID: 5000}},
		Carries: []api.Carry{{ISID: 1, VID: 4094}, {ISID: 5000, VID: 10}, {ISID: 6000, VID: 20}, {ISID: 7000, VID: 10}, {ISID: 1<<24 - 1, VID: 1}},
		Members: []api.Member{{VID: 1, Ports: []int{7}}, {VID: 10, Ports: []int{1, 3, 4, 6}}, {VID: 20, Ports: []int{1, 5}}, {VID: 30}, {VID: 4094, Ports: []int{1, 3, 4, 5, 6, 7}}},
	}
}

// open are gates of n ports, all of which learn and forward.
func open(n int) []Gate {
	return slices.Repeat([]Gate{{Learns: true, Forwards: true}}, n)
}

// shut are the same but at these ports, that do neither.
func shut(ports ...int) []Gate {
	g := open(8)
	for _, port := range ports {
		g[port] = Gate{}
	}
	return g
}

// frame is one of service 5000 on VLAN 10.
func frame(da, sa api.MAC) api.BFrame {
	return api.BFrame{DA: da, SA: sa, B: api.Tag{PCP: 3, VID: 10}, I: api.ITag{ISID: 5000, DA: own, SA: own}, Rest: []byte{8, 0}}
}

// on is a frame from far to other on a VLAN.
func on(vid int) api.BFrame {
	b := frame(other, far)
	b.B.VID = vid
	return b
}

// All tests lean on that: what is provisioned may be.
func TestSome(t *testing.T) {
	if e := prov.Check(some()); e != api.OK {
		t.Error(e)
	}
}

// P19.1: of each port what it does, not what it may do, or what else is true of it; all four pairs, none, more than there may be.
func TestGates(t *testing.T) {
	ports := []api.Port{
		{Learn: true, Forward: true, Up: true, Role: api.Root, Selected: true},
		{Learning: true},
		{Forwarding: true, Role: api.Alternate},
		{Learning: true, Forwarding: true, Learn: false, Forward: false},
	}
	want := []Gate{{}, {Learns: true}, {Forwards: true}, {Learns: true, Forwards: true}}
	for n := range len(ports) + 1 {
		if g := Gates(api.Tree{ID: 7, Began: true, P: ports[:n]}); !slices.Equal(g, want[:n]) {
			t.Error(n, g)
		}
	}
	if g := Gates(api.Tree{P: slices.Repeat(ports, 5)}); !slices.Equal(g, slices.Repeat(want, 5)) {
		t.Error(g)
	}
	if g := Gates(api.Tree{P: []api.Port{}}); len(g) != 0 {
		t.Error(g)
	}
}

// P19.2: In, a frame that comes in: from any station, to anybody but bridges.
func TestInGood(t *testing.T) {
	das := slices.Concat(toOne, []api.MAC{own}, slices.DeleteFunc(slices.Clone(toMany), func(m api.MAC) bool { return m == bridge || m == last }))
	for _, da := range das {
		for _, sa := range slices.Concat(toOne, toMany) {
			for _, port := range []int{1, 3, 4, 6} {
				if why := In(some(), open(8), port, frame(da, sa)); why != api.NoWhy {
					t.Error(port, da, sa, why)
				}
			}
		}
	}
}

// P19.2: In, each of the reasons alone, at its edges.
func TestInBad(t *testing.T) {
	for _, port := range []int{0, 2, 5, 7, -1, 8, math.MinInt, math.MaxInt} {
		if why := In(some(), open(8), port, on(10)); why != api.NoMember {
			t.Error(port, why)
		}
	}
	for _, vid := range []int{0, -10, 9, 11, 20, 30, 40, 4095, math.MinInt, math.MaxInt} {
		if why := In(some(), open(8), 3, on(vid)); why != api.NoMember {
			t.Error(vid, why)
		}
	}
	if why := In(some(), open(8), 1, frame(far, own)); why != api.OwnFrame {
		t.Error(why)
	}
	for i := range byte(16) {
		if why := In(some(), open(8), 1, frame(api.MAC{1, 0x80, 0xc2, 0, 0, i}, far)); why != api.Away {
			t.Error(i, why)
		}
	}
	for _, g := range [][]Gate{shut(3), {{}, {}, {}, {Learns: true}, {Forwards: true}}, open(3), nil} {
		if why := In(some(), g, 3, frame(far, other)); why != api.Blocked {
			t.Error(g, why)
		}
	}
	if why := In(some(), open(4), 3, frame(far, other)); why != api.NoWhy {
		t.Error(why)
	}
}

// P19.2: of all reasons that are so, the first is told.
func TestInFirst(t *testing.T) {
	order := []api.Why{api.NoMember, api.OwnFrame, api.Away, api.Blocked}
	for bits := range 16 {
		want := api.NoWhy
		for i, why := range order {
			if bits>>i&1 == 1 {
				want = why
				break
			}
		}
		b, g := frame(far, other), open(8)
		if bits&1 != 0 {
			b.B.VID = 20
		}
		if bits&2 != 0 {
			b.SA = own
		}
		if bits&4 != 0 {
			b.DA = bridge
		}
		if bits&8 != 0 {
			g = shut(3)
		}
		if why := In(some(), g, 3, b); why != want {
			t.Error(bits, why)
		}
	}
}

// P19.2: what is learned: of a member that learns, though it does not forward yet, and whoever the frame is for.
func TestLearns(t *testing.T) {
	learns := slices.Repeat([]Gate{{Learns: true}}, 8)
	for _, da := range slices.Concat(toOne, toMany, []api.MAC{own}) {
		for _, port := range []int{1, 3, 4, 6} {
			if !Learns(some(), learns, port, frame(da, far)) || !Learns(some(), open(8), port, frame(da, other)) {
				t.Error(port, da)
			}
		}
	}
}

// P19.2: what is not learned: each of the reasons alone.
func TestLearnsNot(t *testing.T) {
	for _, port := range []int{0, 2, 5, 7, -1, 8, math.MinInt, math.MaxInt} {
		if Learns(some(), open(8), port, on(10)) {
			t.Error(port)
		}
	}
	for _, vid := range []int{0, -10, 9, 11, 20, 30, 40, 4095, math.MinInt, math.MaxInt} {
		if Learns(some(), open(8), 3, on(vid)) {
			t.Error(vid)
		}
	}
	for _, g := range [][]Gate{shut(3), {{Learns: true}, {}, {}, {Forwards: true}, {Learns: true}}, open(3), nil} {
		if Learns(some(), g, 3, on(10)) {
			t.Error(g)
		}
	}
	for _, sa := range slices.Concat(toMany, []api.MAC{own, none}) {
		if Learns(some(), open(8), 3, frame(far, sa)) {
			t.Error(sa)
		}
	}
}

// P19.2: a bridge made by hand, whose own address is everybody's, or nobody's, learns of others.
func TestLearnsOfAny(t *testing.T) {
	for _, m := range slices.Concat(toMany, []api.MAC{none}) {
		p := some()
		p.Own = m
		if !Learns(p, open(8), 3, frame(far, own)) || Learns(p, open(8), 3, frame(far, m)) {
			t.Error(m)
		}
		if why := In(p, open(8), 3, frame(far, m)); why != api.OwnFrame {
			t.Error(m, why)
		}
	}
}

// goes is what Out tells of a frame of VLAN 10 of some.
func goes(t *testing.T, g []Gate, from int, da api.MAC, at int, has bool, want []int, itself bool) {
	t.Helper()
	ports, is := Out(some(), g, from, frame(da, far), at, has)
	if !slices.Equal(ports, want) || is != itself {
		t.Error(from, da, at, has, ports, is)
	}
}

// P19.3, and the chapter's example.
func TestExample(t *testing.T) {
	p := api.Prov{Own: own, Members: []api.Member{{VID: 10, Ports: []int{1, 2, 3}}}}
	if ports, itself := Out(p, open(4), 2, frame(far, other), 0, false); !slices.Equal(ports, []int{1, 3}) || itself {
		t.Error(ports, itself)
	}
}

// P19.3: one that is unknown goes everywhere but back, and not to the bridge itself; where it is known, there alone.
func TestOutOne(t *testing.T) {
	for _, da := range toOne {
		goes(t, open(8), -1, da, 0, false, []int{1, 3, 4, 6}, false)
		goes(t, open(8), math.MinInt, da, 3, false, []int{1, 3, 4, 6}, false)
		goes(t, open(8), 1, da, 1, false, []int{3, 4, 6}, false)
		goes(t, open(8), 4, da, 6, false, []int{1, 3, 6}, false)
		goes(t, open(8), 6, da, 0, false, []int{1, 3, 4}, false)
		goes(t, shut(3, 6), 1, da, 0, false, []int{4}, false)
		goes(t, shut(1, 3, 4, 6), 0, da, 0, false, nil, false)
		for _, from := range []int{-1, 0, 5, 7, 8, math.MinInt, math.MaxInt} { // none of the members
			for _, at := range []int{1, 3, 4, 6} {
				goes(t, open(8), from, da, at, true, []int{at}, false)
				goes(t, shut(at), from, da, at, true, nil, false)
			}
		}
	}
}

// P19.3: known where it may not go: back, at no member, at a port that does not forward, or that there is not.
func TestOutNowhere(t *testing.T) {
	goes(t, open(8), 3, far, 3, true, nil, false)
	for _, at := range []int{0, 2, 5, 7, 8, -1, math.MinInt, math.MaxInt} {
		goes(t, open(8), 3, far, at, true, nil, false)
		goes(t, open(8), -1, far, at, true, nil, false)
		goes(t, open(8), at, far, at, true, nil, false)
	}
	goes(t, slices.Repeat([]Gate{{Learns: true}}, 8), 3, far, 4, true, nil, false)
}

// P19.3: what is to many goes everywhere but back, whatever is known of it; and to the bridge itself, where it is not from there.
func TestOutMany(t *testing.T) {
	for _, da := range toMany {
		for _, has := range []bool{false, true} {
			for _, at := range []int{-1, 0, 3, 4, 8} {
				goes(t, open(8), 3, da, at, has, []int{1, 4, 6}, true)
				goes(t, open(8), 0, da, at, has, []int{1, 3, 4, 6}, true)
				goes(t, open(8), math.MaxInt, da, at, has, []int{1, 3, 4, 6}, true)
				goes(t, open(8), -1, da, at, has, []int{1, 3, 4, 6}, false)
				goes(t, open(8), math.MinInt, da, at, has, []int{1, 3, 4, 6}, false)
				goes(t, shut(1, 3, 4, 6), 3, da, at, has, nil, true)
			}
		}
	}
}

// P19.3: what is to the bridge goes nowhere else, whatever is known of it.
func TestOutOwn(t *testing.T) {
	for _, has := range []bool{false, true} {
		for _, at := range []int{-1, 0, 1, 3, 4, 8} {
			goes(t, open(8), 0, own, at, has, nil, true)
			goes(t, open(8), 3, own, at, has, nil, true)
			goes(t, open(8), math.MaxInt, own, at, has, nil, true)
			goes(t, open(8), -1, own, at, has, nil, false)
			goes(t, open(8), math.MinInt, own, at, has, nil, false)
		}
	}
}

// P19.3: of a bridge made by hand, whose own address is to many: it is its own first.
func TestOutOwnMany(t *testing.T) {
	for _, m := range toMany {
		p := some()
		p.Own = m
		if ports, itself := Out(p, open(8), 3, frame(m, far), 1, true); len(ports) != 0 || !itself {
			t.Error(m, ports, itself)
		}
		if ports, itself := Out(p, open(8), -1, frame(m, far), 1, false); len(ports) != 0 || itself {
			t.Error(m, ports, itself)
		}
	}
}

// P19.3: members are those of the frame's VLAN; of one that there is not, or has no ports, nothing goes out, but it may be to the bridge itself.
func TestOutVLANs(t *testing.T) {
	for vid, want := range map[int][]int{1: {7}, 10: {1, 3, 4, 6}, 20: {1, 5}, 30: nil, 4094: {1, 3, 4, 5, 6, 7}, 40: nil, 0: nil, -1: nil, 4095: nil, math.MinInt: nil, math.MaxInt: nil} {
		for _, da := range []api.MAC{far, of5000} {
			b := on(vid)
			b.DA = da
			if ports, itself := Out(some(), open(8), 2, b, 0, false); !slices.Equal(ports, want) || itself != (da == of5000) {
				t.Error(vid, da, ports, itself)
			}
		}
	}
}

// P19.3, P19.5: of rows made by hand those of the first Member count, in the order in which they stand; one that stands twice is one; only ports that have a gate go on.
func TestOutOfAny(t *testing.T) {
	p := api.Prov{Members: []api.Member{{VID: -4, Ports: []int{5, 1, 5, -1, 2, 1, math.MaxInt, 9, math.MinInt, 5, 0, 9}}, {VID: -4, Ports: []int{3}}}}
	for _, x := range []struct {
		g    []Gate
		from int
		at   int
		has  bool
		want []int
	}{
		{open(10), -1, 0, false, []int{5, 1, 2, 9, 0}},
		{open(9), -1, 0, false, []int{5, 1, 2, 0}},
		{open(2), 7, 0, false, []int{1, 0}},
		{open(1), 7, 0, false, []int{0}},
		{open(10), 5, 0, false, []int{1, 2, 9, 0}},
		{open(10), 3, 5, true, []int{5}},
		{open(10), 5, 5, true, nil},
		{open(10), -1, -1, true, nil},
		{open(10), 0, math.MaxInt, true, nil},
		{open(10), 0, 3, true, nil},
		{nil, -1, 0, false, nil},
		{[]Gate{}, -1, 5, true, nil},
	} {
		if ports, itself := Out(p, x.g, x.from, on(-4), x.at, x.has); !slices.Equal(ports, x.want) || itself {
			t.Error(x, ports, itself)
		}
	}
	for port, want := range map[int]api.Why{5: api.NoWhy, 9: api.NoWhy, -1: api.Blocked, math.MaxInt: api.Blocked, math.MinInt: api.Blocked, 3: api.NoMember} {
		if why := In(p, open(10), port, on(-4)); why != want || Learns(p, open(10), port, on(-4)) != (want == api.NoWhy) {
			t.Error(port, why)
		}
	}
}

// P19.3, P19.5: a VLAN that names ports very often is gone through once.
func TestOutLong(t *testing.T) {
	const n = 1 << 17
	ports := make([]int, 2*n)
	for i := range ports {
		ports[i] = n - 1 - i%n
	}
	p := api.Prov{Own: own, Members: []api.Member{{VID: 10, Ports: ports}}}
	if got, _ := Out(p, open(n), 0, frame(far, other), 0, false); !slices.Equal(got, ports[:n-1]) {
		t.Error(len(got))
	}
}

// P19.4: a service has the VLAN that carries it, and no other one; who the frame is for, and whether the bridge has customers there, does not count.
func TestAccept(t *testing.T) {
	for _, x := range []struct {
		isid, vid int
		want      api.Why
	}{
		{5000, 10, api.NoWhy}, {7000, 10, api.NoWhy}, {6000, 20, api.NoWhy}, {1, 4094, api.NoWhy}, {1<<24 - 1, 1, api.NoWhy},
		{5000, 20, api.NoService}, {6000, 10, api.NoService}, {5000, 11, api.NoService}, {5000, 30, api.NoService}, {5000, 0, api.NoService},
		{5001, 10, api.NoService}, {4999, 10, api.NoService}, {0, 10, api.NoService}, {0, 0, api.NoService}, {8000, 0, api.NoService},
		{-5000, 10, api.NoService}, {1 << 24, 1, api.NoService}, {math.MinInt, math.MinInt, api.NoService}, {math.MaxInt, math.MaxInt, api.NoService},
	} {
		for _, da := range []api.MAC{own, far, of5000, bridge, none} {
			b := frame(da, far)
			b.I.ISID, b.B.VID = x.isid, x.vid
			if why := Accept(some(), b); why != x.want {
				t.Error(x, da, why)
			}
		}
	}
}

// P19.4: of rows made by hand what stands first counts; of no rows nothing is carried.
func TestAcceptOfAny(t *testing.T) {
	p := api.Prov{Carries: []api.Carry{{ISID: 5000, VID: 20}, {ISID: 5000, VID: 10}, {}}}
	if why := Accept(p, frame(own, far)); why != api.NoService {
		t.Error(why)
	}
	if why := Accept(p, api.BFrame{}); why != api.NoWhy {
		t.Error(why)
	}
	if why := Accept(api.Prov{}, api.BFrame{}); why != api.NoService {
		t.Error(why)
	}
}

// Nothing at all: no gates, no rows, no frame.
func TestNothing(t *testing.T) {
	if g := Gates(api.Tree{}); len(g) != 0 {
		t.Error(g)
	}
	for _, port := range []int{0, -1, 1, math.MinInt, math.MaxInt} {
		if why := In(api.Prov{}, nil, port, api.BFrame{}); why != api.NoMember {
			t.Error(port, why)
		}
		if Learns(api.Prov{}, nil, port, api.BFrame{}) {
			t.Error(port)
		}
		if ports, itself := Out(api.Prov{}, nil, port, api.BFrame{}, port, true); len(ports) != 0 || itself != (port >= 0) {
			t.Error(port, ports, itself) // nobody's address is its own
		}
	}
}
