package span

import (
	"bytes"
	"encoding/binary"
	"math"
	"math/rand"
	"slices"
	"testing"

	"pontage/api"
)

// What the document says, said again without the package, and without vector.

// mayBe tells whether a graph may be.
func mayBe(ids []uint64, edges []api.Edge) bool {
	if len(ids) == 0 || len(ids) > 7 || len(edges) > 24 {
		return false
	}
	addresses := map[uint64]int{}
	for _, id := range ids {
		addresses[id%(1<<48)]++
	}
	ports := map[[2]int]int{}
	for _, e := range edges {
		ports[[2]int{e.A, e.PortA}]++
		ports[[2]int{e.B, e.PortB}]++
		if e.A == e.B || e.CostA == 0 || e.CostB == 0 || e.CostA > 2e8 || e.CostB > 2e8 {
			return false
		}
	}
	for p := range ports {
		if p[0] < 0 || p[0] >= len(ids) || p[1] < 0 || p[1] > 7 {
			return false
		}
	}
	return len(addresses) == len(ids) && len(ports) == 2*len(edges)
}

// graph is one that may be.
type graph struct {
	ids   []uint64
	edges []api.Edge
}

// hop is an edge, as a bridge goes over it.
type hop struct {
	port      int
	cost      uint64
	to, there int // the other bridge, and its port
}

// hops are all from a bridge, by its ports.
func (g graph) hops(bridge int) []hop {
	var list []hop
	for _, e := range g.edges {
		if e.A == bridge {
			list = append(list, hop{e.PortA, uint64(e.CostA), e.B, e.PortB})
		}
		if e.B == bridge {
			list = append(list, hop{e.PortB, uint64(e.CostB), e.A, e.PortA})
		}
	}
	slices.SortFunc(list, func(x, y hop) int { return x.port - y.port })
	return list
}

// ways tells of each bridge to which one comes the least cost of a way there: all ways are gone.
func (g graph) ways(from int) map[int]uint64 {
	least := map[int]uint64{}
	passed := make([]int, len(g.ids))
	var walk func(at int, cost uint64)
	walk = func(at int, cost uint64) {
		if now, ok := least[at]; !ok || cost < now {
			least[at] = cost
		}
		passed[at] = 1
		for _, h := range g.hops(at) {
			if passed[h.to] == 0 {
				walk(h.to, cost+h.cost)
			}
		}
		passed[at] = 0
	}
	walk(from, 0)
	return least
}

// rootOf is a bridge's root, as a place, and its cost.
func (g graph) rootOf(bridge int) (int, uint64) {
	ways := g.ways(bridge)
	root := bridge
	for at := range g.ids {
		if _, ok := ways[at]; ok && g.ids[at] < g.ids[root] {
			root = at
		}
	}
	return root, ways[root]
}

// settled is what a graph comes to: each bridge's root, as a place, and cost.
type settled struct {
	graph
	roots []int
	costs []uint64
}

func (g graph) settle() settled {
	s := settled{graph: g}
	for i := range g.ids {
		root, cost := g.rootOf(i)
		s.roots, s.costs = append(s.roots, root), append(s.costs, cost)
	}
	return s
}

func (s settled) tells(bridge, port int, more uint64) api.Vector {
	return api.Vector{Root: s.ids[s.roots[bridge]], Cost: uint32(s.costs[bridge] + more), Bridge: s.ids[bridge], Port: uint16(0x8000 + port + 1)}
}

func order(a, b api.Vector) int {
	in := func(v api.Vector) []byte {
		l := binary.BigEndian.AppendUint64(nil, v.Root)
		l = binary.BigEndian.AppendUint32(l, v.Cost)
		l = binary.BigEndian.AppendUint64(l, v.Bridge)
		return binary.BigEndian.AppendUint16(l, v.Port)
	}
	return bytes.Compare(in(a), in(b))
}

// rootPort sorts all that a bridge hears, in the order of its ports where it is alike.
func (s settled) rootPort(bridge int) int {
	if s.roots[bridge] == bridge {
		return -1
	}
	list := s.hops(bridge)
	slices.SortStableFunc(list, func(x, y hop) int {
		return order(s.tells(x.to, x.there, x.cost), s.tells(y.to, y.there, y.cost))
	})
	return list[0].port
}

func (s settled) end(bridge, port, other, there int) End {
	own, told := s.tells(bridge, port, 0), s.tells(other, there, 0)
	x := End{Bridge: bridge, Port: port, Role: api.Alternate, V: told}
	if order(own, told) < 0 {
		x.Role, x.V = api.Designated, own
	}
	if s.rootPort(bridge) == port {
		x.Role = api.Root
	}
	return x
}

// said is what all calls must say of lists, whether they are a graph or not.
func said(ids []uint64, edges []api.Edge) all {
	if !mayBe(ids, edges) {
		return all{check: 160, nodesE: 160, endsE: 160, treeE: 160}
	}
	s := graph{ids, edges}.settle()
	var x all
	for i := range ids {
		x.nodes = append(x.nodes, Node{Root: ids[s.roots[i]], Cost: uint32(s.costs[i]), RootPort: s.rootPort(i)})
	}
	for i, e := range edges {
		a, b := s.end(e.A, e.PortA, e.B, e.PortB), s.end(e.B, e.PortB, e.A, e.PortA)
		x.ends = append(x.ends, a, b)
		carry := []api.Role{api.Root, api.Designated}
		if slices.Contains(carry, a.Role) && slices.Contains(carry, b.Role) {
			x.tree = append(x.tree, i)
		}
	}
	return x
}

// Graphs by chance.

func one[T any](r *rand.Rand, list []T) T {
	return list[r.Intn(len(list))]
}

// anyIDs are as many numbers, of few priorities, whose addresses are unlike in unlike bytes.
func anyIDs(r *rand.Rand, n int) []uint64 {
	var ids []uint64
	for _, low := range r.Perm(n) {
		id := uint64(low) << (8 * r.Intn(2) * r.Intn(6))
		ids = append(ids, id|one(r, []uint64{0, 0, 1, 0x8000, 0xffff})<<48)
	}
	return ids
}

// purses are costs that a graph's ends take theirs of: few, so that ways are alike.
func purses() [][]uint32 {
	return [][]uint32{{10}, {1, 2}, {1, 2, 3, 4, 5}, {1, 200000000}, {199999999, 200000000}, {200000000}, {1, 10, 100, 1000, 10000, 20000}}
}

// anyGraph is one of as many bridges, with as many edges as asked, where ports are left for them.
func anyGraph(r *rand.Rand, bridges, edges int) graph {
	purse := one(r, purses())
	var free [][2]int
	for i := range bridges * 8 {
		free = append(free, [2]int{i / 8, i % 8})
	}
	var list []api.Edge
	for range 4 * edges {
		if len(list) == edges || len(free) < 2 {
			break
		}
		r.Shuffle(len(free), func(i, k int) { free[i], free[k] = free[k], free[i] })
		a, b := free[0], free[1]
		if a[0] != b[0] {
			list = append(list, api.Edge{A: a[0], PortA: a[1], B: b[0], PortB: b[1], CostA: one(r, purse), CostB: one(r, purse)})
			free = free[2:]
		}
	}
	return graph{anyIDs(r, bridges), list}
}

// graphs are many that may be, of one to seven bridges, sparse and crowded.
func graphs(t *testing.T, seed int64, each int) []graph {
	t.Helper()
	r := rand.New(rand.NewSource(seed))
	var list []graph
	for bridges := 1; bridges <= 7; bridges++ {
		for range each {
			edges := r.Intn(25)
			if r.Intn(2) == 0 {
				edges = r.Intn(bridges + 2)
			}
			g := anyGraph(r, bridges, edges)
			if !mayBe(g.ids, g.edges) {
				t.Fatalf("%+v may not be", g)
			}
			list = append(list, g)
		}
	}
	return list
}

// P16.1 to P16.4: graphs by chance, against what the document says.
func TestSaid(t *testing.T) {
	for _, g := range graphs(t, 1, 400) {
		if x, want := ask(g.ids, g.edges), said(g.ids, g.edges); !x.equal(want) {
			t.Fatalf("%+v: %+v, not %+v", g, x, want)
		}
	}
}

// P16.2 to P16.4: all graphs of four bridges with at most one edge between two of them, of costs 1 and 2, the bridges' numbers in all orders by turns.
func TestAllSmall(t *testing.T) {
	orders := permutations(4)
	for n := range 5 * 5 * 5 * 5 * 5 * 5 {
		g := graph{ids: orders[n%len(orders)]}
		rest := n
		for b := range 4 {
			for a := range b {
				if k := rest % 5; k > 0 {
					g.edges = append(g.edges, api.Edge{A: a, PortA: b, B: b, PortB: a, CostA: uint32(1 + (k-1)%2), CostB: uint32(1 + (k-1)/2)})
				}
				rest /= 5
			}
		}
		if x, want := ask(g.ids, g.edges), said(g.ids, g.edges); !x.equal(want) || !x.good() {
			t.Fatalf("%+v: %+v, not %+v", g, x, want)
		}
	}
}

// permutations are those of the numbers from 1 on.
func permutations(n int) [][]uint64 {
	if n == 0 {
		return [][]uint64{nil}
	}
	var list [][]uint64
	for _, less := range permutations(n - 1) {
		for i := range n {
			list = append(list, slices.Insert(slices.Clone(less), i, uint64(n)))
		}
	}
	return list
}

// P16.1: graphs of which one thing is another one than it was, against what the document says: many of them may not be.
func TestSaidOfWrong(t *testing.T) {
	r := rand.New(rand.NewSource(2))
	numbers := []int{math.MinInt, -8, -1, 0, 1, 2, 3, 6, 7, 8, 1 << 32, 1<<32 + 1, math.MaxInt}
	costs := []uint32{0, 1, 2, 200000000, 200000001, math.MaxUint32}
	may, mayNot := 0, 0
	for _, g := range graphs(t, 3, 1500) {
		i := r.Intn(len(g.ids))
		if len(g.edges) == 0 || r.Intn(8) == 0 {
			g.ids[i] = one(r, g.ids) ^ one(r, []uint64{0, 1 << 48, 1 << 47, 1 << 63})
		} else {
			e := &g.edges[r.Intn(len(g.edges))]
			*one(r, []*int{&e.A, &e.PortA, &e.B, &e.PortB}) = one(r, numbers)
			if r.Intn(3) == 0 {
				*e = link(r.Intn(8), r.Intn(8), r.Intn(8), r.Intn(8), 5)
				*one(r, []*uint32{&e.CostA, &e.CostB}) = one(r, costs)
			}
		}
		x, want := ask(g.ids, g.edges), said(g.ids, g.edges)
		if !x.equal(want) {
			t.Fatalf("%+v: %+v, not %+v", g, x, want)
		}
		if want.good() {
			may++
		} else {
			mayNot++
		}
	}
	if may < 500 || mayNot < 500 {
		t.Errorf("%d may be, %d not", may, mayNot)
	}
}

// What follows.

// parts are the least places to which bridges come by edges.
func parts(n int, edges []api.Edge) []int {
	part := make([]int, n)
	for i := range part {
		part[i] = i
	}
	for range n {
		for _, e := range edges {
			low := min(part[e.A], part[e.B])
			part[e.A], part[e.B] = low, low
		}
	}
	return part
}

// P16.5: the edges that carry join what the graph joins; without a ring: each joins two parts that were apart.
func TestIsATree(t *testing.T) {
	for _, g := range graphs(t, 4, 600) {
		places, e := Tree(g.ids, g.edges)
		if e != api.OK {
			t.Fatal(e)
		}
		var carry []api.Edge
		for _, i := range places {
			before := parts(len(g.ids), carry)
			if before[g.edges[i].A] == before[g.edges[i].B] {
				t.Fatalf("%+v: a ring in %v", g, places)
			}
			carry = append(carry, g.edges[i])
		}
		if !slices.Equal(parts(len(g.ids), carry), parts(len(g.ids), g.edges)) {
			t.Fatalf("%+v: %v does not join all", g, places)
		}
	}
}

// P16.6: of each edge one end is Designated, the other one Root or Alternate; a root has no Root port, each other bridge one, and it is the one that Nodes tells.
func TestFits(t *testing.T) {
	for _, g := range graphs(t, 5, 600) {
		x := ask(g.ids, g.edges)
		roots := make([]int, len(g.ids))
		for i := range g.edges {
			a, b := x.ends[2*i], x.ends[2*i+1]
			if a.Role == api.Designated {
				a, b = b, a
			}
			if b.Role != api.Designated || a.Role != api.Root && a.Role != api.Alternate || a.V != b.V || b.V.Bridge != g.ids[b.Bridge] {
				t.Fatalf("%+v: edge %d: %+v %+v", g, i, a, b)
			}
			if a.Role == api.Root {
				roots[a.Bridge]++
				if x.nodes[a.Bridge].RootPort != a.Port {
					t.Fatalf("%+v: %+v, but %+v", g, a, x.nodes[a.Bridge])
				}
			}
		}
		for i, n := range x.nodes {
			isRoot := n.Root == g.ids[i]
			if isRoot != (n.RootPort == -1) || isRoot != (roots[i] == 0) || roots[i] > 1 {
				t.Fatalf("%+v: bridge %d: %+v, %d root ports", g, i, n, roots[i])
			}
		}
	}
}

// P16.7: along root ports costs fall by the port's, down to 0 at the root, which is the same all the way.
func TestCostsFall(t *testing.T) {
	for _, g := range graphs(t, 6, 600) {
		nodes, e := Nodes(g.ids, g.edges)
		if e != api.OK {
			t.Fatal(e)
		}
		for i := range nodes {
			at := i
			for range len(nodes) {
				n := nodes[at]
				if n.RootPort == -1 {
					break
				}
				list := g.hops(at)
				h := list[slices.IndexFunc(list, func(h hop) bool { return h.port == n.RootPort })]
				if uint64(nodes[h.to].Cost)+h.cost != uint64(n.Cost) || nodes[h.to].Root != n.Root {
					t.Fatalf("%+v: from %d to %d: %+v", g, at, h.to, nodes)
				}
				at = h.to
			}
			if nodes[at] != (Node{Root: g.ids[at], RootPort: -1}) || nodes[i].Root != g.ids[at] {
				t.Fatalf("%+v: %d comes to %d: %+v", g, i, at, nodes)
			}
		}
	}
}

// P16.8: edges turned, and in another order, change nothing but the order.
func TestTurned(t *testing.T) {
	r := rand.New(rand.NewSource(7))
	for _, g := range graphs(t, 8, 600) {
		x := ask(g.ids, g.edges)
		from := r.Perm(len(g.edges))
		var edges []api.Edge
		var ends []End
		var carry []int
		for place, i := range from {
			e, a, b := g.edges[i], x.ends[2*i], x.ends[2*i+1]
			if r.Intn(2) == 0 {
				e, a, b = turnedEdge(e), b, a
			}
			edges, ends = append(edges, e), append(ends, a, b)
			if slices.Contains(x.tree, i) {
				carry = append(carry, place)
			}
		}
		want := all{nodes: x.nodes, ends: ends, tree: carry}
		if y := ask(g.ids, edges); !y.equal(want) {
			t.Fatalf("%+v: %+v, turned %+v: %+v", g, x, edges, y)
		}
	}
}
