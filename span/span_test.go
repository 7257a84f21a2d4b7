package span

import (
	"math"
	"slices"
	"testing"

	"pontage/api"
)

// link is an edge of one cost at both its ends.
func link(a, portA, b, portB int, cost uint32) api.Edge {
	return api.Edge{A: a, PortA: portA, B: b, PortB: portB, CostA: cost, CostB: cost}
}

// ring is the document's example, and one that all tests of wrong graphs begin with.
func ring() ([]uint64, []api.Edge) {
	return []uint64{1, 2, 3}, []api.Edge{link(0, 0, 1, 0, 10), link(1, 1, 2, 0, 10), link(2, 1, 0, 1, 10)}
}

// all is what each call says of a graph.
type all struct {
	check, nodesE, endsE, treeE api.Errno
	nodes                       []Node
	ends                        []End
	tree                        []int
}

func ask(ids []uint64, edges []api.Edge) all {
	var x all
	x.check = Check(ids, edges)
	x.nodes, x.nodesE = Nodes(ids, edges)
	x.ends, x.endsE = Ends(ids, edges)
	x.tree, x.treeE = Tree(ids, edges)
	return x
}

func (x all) equal(y all) bool {
	return x.check == y.check && x.nodesE == y.nodesE && x.endsE == y.endsE && x.treeE == y.treeE &&
		slices.Equal(x.nodes, y.nodes) && slices.Equal(x.ends, y.ends) && slices.Equal(x.tree, y.tree)
}

// good tells whether a graph may be, and all calls say so.
func (x all) good() bool {
	return x.check == api.OK && x.nodesE == api.OK && x.endsE == api.OK && x.treeE == api.OK
}

// refused tells whether a graph may not be, and all calls say so, and nothing else.
func (x all) refused() bool {
	return x.equal(all{check: 160, nodesE: 160, endsE: 160, treeE: 160})
}

func roleList(ends []End) []api.Role {
	var list []api.Role
	for _, x := range ends {
		list = append(list, x.Role)
	}
	return list
}

// P16.2, P16.3, P16.4: the document's example: the edge of 2 and 3 does not carry: 3's end is Alternate.
func TestExample(t *testing.T) {
	x := ask(ring())
	by1 := api.Vector{Root: 1, Bridge: 1, Port: 0x8001}
	at3 := api.Vector{Root: 1, Bridge: 1, Port: 0x8002}
	by2 := api.Vector{Root: 1, Cost: 10, Bridge: 2, Port: 0x8002}
	want := all{
		nodes: []Node{{1, 0, -1}, {1, 10, 0}, {1, 10, 1}},
		ends: []End{
			{0, 0, api.Designated, by1}, {1, 0, api.Root, by1},
			{1, 1, api.Designated, by2}, {2, 0, api.Alternate, by2},
			{2, 1, api.Root, at3}, {0, 1, api.Designated, at3},
		},
		tree: []int{0, 2},
	}
	if !x.equal(want) {
		t.Errorf("%+v", x)
	}
}

// P16.1: at each limit a graph may be; one past it, it may not, and each call says so and nothing else.
func TestCheckLimits(t *testing.T) {
	for n := range 12 {
		var ids []uint64
		for i := range n {
			ids = append(ids, uint64(20-i))
		}
		x := ask(ids, nil)
		if n >= 1 && n <= 7 {
			if !x.good() || len(x.nodes) != n || len(x.ends) != 0 || len(x.tree) != 0 {
				t.Errorf("%d bridges: %+v", n, x)
			}
		} else if !x.refused() {
			t.Errorf("%d bridges: %+v", n, x)
		}
	}
	ids, edges := crowd()
	for n := range len(edges) + 1 {
		x := ask(ids, edges[:n])
		if n <= 24 {
			if !x.good() || len(x.nodes) != 7 || len(x.ends) != 2*n {
				t.Errorf("%d edges: %+v", n, x)
			}
		} else if !x.refused() {
			t.Errorf("%d edges: %+v", n, x)
		}
	}
}

// crowd is seven bridges, and more edges than may be, though no port stands in two.
func crowd() ([]uint64, []api.Edge) {
	ids := []uint64{7, 6, 5, 4, 3, 2, 1}
	used := make([]int, 7)
	var edges []api.Edge
	for step := 1; step <= 4; step++ {
		for a := range 7 {
			b := (a + step) % 7
			if used[a] < 8 && used[b] < 8 {
				edges = append(edges, link(a, used[a], b, used[b], 5))
				used[a]++
				used[b]++
			}
		}
	}
	return ids, edges
}

// P16.1: addresses are unlike, in whichever byte; priorities do not tell bridges apart.
func TestCheckAddresses(t *testing.T) {
	for i := range 64 {
		x := ask([]uint64{5, 9, 5 ^ 1<<i}, nil)
		if x.good() != (i < 48) || x.refused() == (i < 48) {
			t.Errorf("bit %d: %+v", i, x)
		}
	}
	for i := range 7 {
		for k := range i {
			ids := []uint64{1, 2, 3, 4, 5, 6, 7}
			ids[i] = ids[k] | 0x8000<<48
			if x := ask(ids, nil); !x.refused() {
				t.Errorf("%d and %d alike: %+v", k, i, x)
			}
			ids[i] = ids[k]
			if x := ask(ids, nil); !x.refused() {
				t.Errorf("%d and %d the same: %+v", k, i, x)
			}
		}
	}
	if x := ask([]uint64{0, math.MaxUint64}, nil); !x.good() {
		t.Errorf("%+v", x)
	}
}

// turnedEdge is an edge with its ends turned.
func turnedEdge(e api.Edge) api.Edge {
	return api.Edge{A: e.B, PortA: e.PortB, CostA: e.CostB, B: e.A, PortB: e.PortA, CostB: e.CostA}
}

// eachPlace puts an edge, and it turned, at each place of a graph that has two more.
func eachPlace(e api.Edge, do func(edges []api.Edge)) {
	others := []api.Edge{link(0, 6, 1, 6, 10), link(1, 5, 2, 6, 10)}
	for place := range 3 {
		do(slices.Insert(slices.Clone(others), place, e))
		do(slices.Insert(slices.Clone(others), place, turnedEdge(e)))
	}
}

// P16.1: what an edge by itself may be, at both its ends and at each place.
func TestCheckEdges(t *testing.T) {
	ids := []uint64{4, 2, 3}
	edge := func(change func(e *api.Edge)) api.Edge {
		e := link(0, 0, 2, 0, 10)
		change(&e)
		return e
	}
	expect := func(e api.Edge, good bool) {
		t.Helper()
		eachPlace(e, func(edges []api.Edge) {
			if x := ask(ids, edges); x.good() != good || x.refused() == good {
				t.Errorf("%+v: %+v", edges, x)
			}
		})
	}
	expect(link(0, 0, 2, 0, 10), true)
	expect(link(0, 0, 0, 0, 10), false)
	expect(link(0, 0, 0, 1, 10), false)
	expect(link(2, 0, 2, 1, 10), false)
	expect(link(1, 0, 2, 0, 10), true)
	for _, a := range []int{math.MinInt, -1, 3, 4, 7, 1 << 32, math.MaxInt} {
		expect(edge(func(e *api.Edge) { e.A = a }), false)
		expect(link(a, 0, a+1, 0, 10), false)
	}
	for _, port := range []int{0, 1, 5, 7} {
		expect(edge(func(e *api.Edge) { e.PortA = port }), true)
	}
	for _, port := range []int{math.MinInt, -1, 8, 9, 255, 256, 1 << 32, math.MaxInt} {
		expect(edge(func(e *api.Edge) { e.PortA = port }), false)
	}
	for _, cost := range []uint32{1, 2, 199999999, 200000000} {
		expect(edge(func(e *api.Edge) { e.CostA = cost }), true)
	}
	for _, cost := range []uint32{0, 200000001, 1 << 31, math.MaxUint32} {
		expect(edge(func(e *api.Edge) { e.CostA = cost }), false)
	}
}

// P16.1: no port stands in two edges, at whichever ends, be it twice the same edge; a place stands for another port in another bridge.
func TestCheckPorts(t *testing.T) {
	ids := []uint64{4, 2, 3}
	expect := func(good bool, edges ...api.Edge) {
		t.Helper()
		for turns := range 1 << len(edges) {
			l := slices.Clone(edges)
			for i := range l {
				if turns>>i&1 == 1 {
					l[i] = turnedEdge(l[i])
				}
			}
			if x := ask(ids, l); x.good() != good || x.refused() == good {
				t.Errorf("%+v: %+v", l, x)
			}
		}
	}
	expect(true, link(0, 0, 1, 0, 1), link(1, 1, 2, 0, 1), link(2, 1, 0, 1, 1))
	expect(true, link(0, 0, 1, 0, 1), link(0, 1, 1, 1, 1))
	expect(true, link(0, 0, 1, 1, 1), link(0, 1, 1, 0, 1))
	expect(false, link(0, 0, 1, 0, 1), link(0, 0, 1, 0, 1))
	expect(false, link(0, 0, 1, 0, 1), link(0, 0, 1, 1, 1))
	expect(false, link(0, 0, 1, 0, 1), link(0, 1, 1, 0, 1))
	expect(false, link(0, 0, 1, 0, 1), link(0, 0, 2, 0, 1))
	expect(false, link(0, 0, 1, 3, 1), link(1, 1, 2, 2, 1), link(2, 0, 0, 0, 1))
	expect(false, link(0, 7, 1, 3, 1), link(1, 3, 2, 2, 1), link(2, 0, 0, 0, 1))
}

// P16.1 to P16.4: lists far too long are refused at once.
func TestCheckLong(t *testing.T) {
	ids := make([]uint64, 1<<20)
	for i := range ids {
		ids[i] = uint64(i)
	}
	edges := slices.Repeat([]api.Edge{link(0, 0, 1, 0, 1)}, 1<<20)
	for _, x := range []all{ask(ids, nil), ask(ids[:2], edges), ask(ids, edges), ask(nil, edges), ask(nil, nil), ask([]uint64{}, []api.Edge{})} {
		if !x.refused() {
			t.Errorf("%+v", x)
		}
	}
}

// One bridge alone, and some that no edges join, are each a root.
func TestAlone(t *testing.T) {
	if x := ask([]uint64{0}, nil); !x.equal(all{nodes: []Node{{0, 0, -1}}}) {
		t.Errorf("%+v", x)
	}
	if x := ask([]uint64{math.MaxUint64, 4}, []api.Edge{}); !x.equal(all{nodes: []Node{{math.MaxUint64, 0, -1}, {4, 0, -1}}}) {
		t.Errorf("%+v", x)
	}
}

// P16.2: the least number is the root, so that priorities count ahead of addresses, and the number 0 is one like others; what is not joined has a root of its own.
func TestRoots(t *testing.T) {
	ids := []uint64{0x8000<<48 | 1, 0x7000<<48 | 9, 0x8000<<48 | 2, 0, 0xf000<<48 | 3, math.MaxUint64}
	edges := []api.Edge{link(0, 0, 1, 0, 3), link(0, 1, 2, 0, 4), link(4, 4, 5, 5, 1)}
	n, e := Nodes(ids, edges)
	want := []Node{{ids[1], 3, 0}, {ids[1], 0, -1}, {ids[1], 7, 0}, {0, 0, -1}, {ids[4], 0, -1}, {ids[4], 1, 5}}
	if e != api.OK || !slices.Equal(n, want) {
		t.Errorf("%+v %d", n, e)
	}
	n, e = Nodes(ids, append(edges, link(3, 7, 5, 0, 2)))
	want = []Node{{ids[1], 3, 0}, {ids[1], 0, -1}, {ids[1], 7, 0}, {0, 0, -1}, {0, 3, 4}, {0, 2, 0}}
	if e != api.OK || !slices.Equal(n, want) {
		t.Errorf("%+v %d", n, e)
	}
}

// P16.2: of an edge that cost counts that stands where the way leaves a bridge towards the root, whichever end is A.
func TestCostOfTheLeavingEnd(t *testing.T) {
	for turns := range 4 {
		edges := []api.Edge{
			{A: 0, PortA: 0, B: 1, PortB: 1, CostA: 5, CostB: 70},
			{A: 1, PortA: 2, B: 2, PortB: 3, CostA: 600, CostB: 8},
		}
		for i := range edges {
			if turns>>i&1 == 1 {
				edges[i] = turnedEdge(edges[i])
			}
		}
		for _, c := range []struct {
			ids  []uint64
			want []Node
		}{
			{[]uint64{1, 2, 3}, []Node{{1, 0, -1}, {1, 70, 1}, {1, 78, 3}}},
			{[]uint64{3, 2, 1}, []Node{{1, 605, 0}, {1, 600, 2}, {1, 0, -1}}},
			{[]uint64{3, 1, 2}, []Node{{1, 5, 0}, {1, 0, -1}, {1, 8, 3}}},
		} {
			if n, e := Nodes(c.ids, edges); e != api.OK || !slices.Equal(n, c.want) {
				t.Errorf("%v: %+v %d", c.ids, n, e)
			}
		}
	}
}

// P16.2: the greatest costs over the most bridges, in all orders of the edges.
func TestGreatestCosts(t *testing.T) {
	ids := []uint64{1, 7, 6, 5, 4, 3, 2}
	var edges []api.Edge
	for i := range 6 {
		edges = append(edges, link(i, 1, i+1, 0, 200000000))
	}
	for range 2 {
		slices.Reverse(edges)
		n, e := Nodes(ids, edges)
		if e != api.OK || len(n) != 7 {
			t.Fatal(n, e)
		}
		for i, x := range n {
			if x.Root != 1 || x.Cost != uint32(i)*200000000 || i > 0 && x.RootPort != 0 {
				t.Errorf("%d: %+v", i, x)
			}
		}
	}
}

// P16.2: a way of many edges may be cheaper than one of few.
func TestLongWays(t *testing.T) {
	ids := []uint64{1, 2, 3, 4}
	edges := []api.Edge{link(3, 0, 0, 0, 31), link(3, 1, 2, 0, 10), link(2, 1, 1, 0, 10), link(1, 1, 0, 1, 10)}
	x := ask(ids, edges)
	want := []api.Role{api.Alternate, api.Designated, api.Root, api.Designated, api.Root, api.Designated, api.Root, api.Designated}
	if !x.good() || x.nodes[3] != (Node{1, 30, 1}) || !slices.Equal(roleList(x.ends), want) || !slices.Equal(x.tree, []int{1, 2, 3}) {
		t.Errorf("%+v", x)
	}
}

// P16.2: ways of one cost: the lower number of the bridge next to it counts, then the lower ID of that one's port, though its own port stand higher.
func TestRootPorts(t *testing.T) {
	for _, c := range []struct {
		name  string
		ids   []uint64
		edges []api.Edge
		want  Node
	}{
		{"the cheaper way", []uint64{1, 2, 3, 9}, []api.Edge{link(0, 0, 1, 0, 5), link(0, 1, 2, 0, 4), link(1, 1, 3, 0, 5), link(2, 1, 3, 1, 5)}, Node{1, 9, 1}},
		{"the lower number", []uint64{1, 3, 2, 9}, []api.Edge{link(0, 0, 1, 0, 5), link(0, 1, 2, 0, 5), link(1, 1, 3, 0, 5), link(2, 1, 3, 1, 5)}, Node{1, 10, 1}},
		{"the lower number, ahead of a cheaper last edge", []uint64{1, 3, 2, 9}, []api.Edge{link(0, 0, 1, 0, 6), link(0, 1, 2, 0, 5), link(1, 1, 3, 0, 4), link(2, 1, 3, 1, 5)}, Node{1, 10, 1}},
		{"the other end's lower port", []uint64{1, 9, 8, 9 << 48}, []api.Edge{link(0, 3, 3, 0, 5), link(0, 2, 3, 1, 5), link(0, 4, 3, 2, 5)}, Node{1, 5, 1}},
		{"a cheaper port at a higher port", []uint64{1, 9, 8, 9 << 48}, []api.Edge{link(0, 3, 3, 6, 4), link(0, 2, 3, 1, 5), link(0, 4, 3, 2, 5)}, Node{1, 4, 6}},
		{"the last port", []uint64{1, 9, 8, 9 << 48}, []api.Edge{link(0, 0, 3, 7, 4)}, Node{1, 4, 7}},
	} {
		for range 2 {
			slices.Reverse(c.edges)
			if n, e := Nodes(c.ids, c.edges); e != api.OK || len(n) != 4 || n[3] != c.want {
				t.Errorf("%s: %+v %d", c.name, n, e)
			}
		}
	}
}

// P16.3: of two bridges of one cost the lower number is Designated; the port's vector is what that one tells, at both ends; and a port's ID is 0x8001 and its place.
func TestStandingBy(t *testing.T) {
	ids := []uint64{1, 0x2000, 0x1000}
	for place := range 8 {
		edges := []api.Edge{link(1, 7-place, 0, 0, 10), link(2, place, 0, 1, 10), link(1, place, 2, 7-place, 3)}
		x, e := Ends(ids, edges)
		v := api.Vector{Root: 1, Cost: 10, Bridge: 0x1000, Port: uint16(0x8001 + 7 - place)}
		if e != api.OK || len(x) != 6 || x[4] != (End{1, place, api.Alternate, v}) || x[5] != (End{2, 7 - place, api.Designated, v}) {
			t.Errorf("%d: %+v %d", place, x, e)
		}
	}
}

// P16.3: two edges between two bridges: both ports of the root are Designated, of the other bridge's one is Root, one Alternate.
func TestTwins(t *testing.T) {
	x := ask([]uint64{2, 1}, []api.Edge{link(0, 0, 1, 1, 5), link(0, 1, 1, 0, 5)})
	want := []api.Role{api.Alternate, api.Designated, api.Root, api.Designated}
	if !x.good() || !slices.Equal(roleList(x.ends), want) || !slices.Equal(x.tree, []int{1}) || x.nodes[0] != (Node{1, 5, 1}) {
		t.Errorf("%+v", x)
	}
}

// P16.4: places rise, whichever edges come first; where there are no rings, all edges carry.
func TestTreePlaces(t *testing.T) {
	ids, edges := crowd()
	edges = edges[:24]
	for range 2 {
		slices.Reverse(edges)
		l, e := Tree(ids, edges)
		if e != api.OK || len(l) != 6 || !slices.IsSorted(l) || len(slices.Compact(slices.Clone(l))) != 6 {
			t.Errorf("%v %d", l, e)
		}
	}
	star := []api.Edge{link(3, 0, 0, 0, 9), link(1, 0, 3, 1, 8), link(3, 2, 2, 0, 7), link(4, 0, 3, 7, 1)}
	if l, e := Tree(ids, star); e != api.OK || !slices.Equal(l, []int{0, 1, 2, 3}) {
		t.Errorf("%v %d", l, e)
	}
}

// Rule 4: nothing that is handed in is changed, not even behind its end; answers share nothing with it or with each other.
func TestMemory(t *testing.T) {
	ids, edges := ring()
	ids, edges = append(ids, 77, 78)[:3], append(edges, link(9, 9, 9, 9, 9), link(8, 8, 8, 8, 8))[:3]
	ids2, edges2 := slices.Clone(ids[:5]), slices.Clone(edges[:5])
	want, x := ask(ids, edges), ask(ids, edges)
	for i := range x.nodes {
		x.nodes[i] = Node{99, 99, 99}
	}
	for i := range x.ends {
		x.ends[i] = End{Bridge: 99, Port: 99}
	}
	for i := range x.tree {
		x.tree[i] = 99
	}
	if !slices.Equal(ids[:5], ids2) || !slices.Equal(edges[:5], edges2) {
		t.Error("what was handed in changed")
	}
	if !ask(ids, edges).equal(want) {
		t.Error("an answer is kept")
	}
	kept := ask(ids, edges)
	for i := range ids {
		ids[i], edges[i] = 0, api.Edge{}
	}
	if !kept.equal(want) {
		t.Error("an answer shares what was handed in")
	}
}
