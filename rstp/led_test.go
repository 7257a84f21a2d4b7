package rstp

import (
	"math/rand"
	"slices"
	"testing"

	"pontage/api"
	"pontage/span"
	"pontage/vector"
)

// P17.6: of all times that there are: a bridge that hears nothing is the root; each port that is up is Designated at once, and forwards behind twice Delay and 8 ticks; one that is down does not, nor does one that went down.
func TestItsOwnTree(t *testing.T) {
	latest := 0 // of all, how near to the last moment it was
	for m := uint8(6); m <= 40; m++ {
		for hello := uint8(1); hello <= 2; hello++ {
			for delay := uint8(4); delay <= 30; delay++ {
				c := conf(4)
				c.T = api.Times{Max: m, Hello: hello, Delay: delay}
				if vector.CheckT(c.T) != api.OK {
					continue
				}
				latest = max(latest, alone(t, c)-2*int(delay))
			}
		}
	}
	if latest > 8 || latest < -4 {
		t.Errorf("forwards %d ticks behind twice Delay", latest)
	}
}

// alone is behind how many ticks a port of a bridge forwards, if it hears nothing. Port 0 comes up at once, 1 later, 2 comes up, goes down and comes up again; 3 stays down.
func alone(t *testing.T, c api.RstpConf) int {
	t.Helper()
	b := made(t, c)
	since := [4]int{0, 3, 8, -1}
	first := 0
	bound := 2*int(c.T.Delay) + 8
	for tick := 0; tick <= bound+12; tick++ {
		switch tick {
		case 0, 2:
			good(t)(b.Up(tick, true))
		case 3:
			good(t)(b.Up(1, true))
		case 5:
			good(t)(b.Up(2, false))
		case 8:
			good(t)(b.Up(2, true))
		}
		for i, up := range since {
			x := b.Tree()
			if x.Root != vector.Own(c.ID) || x.RootPort != 0 {
				t.Fatalf("%+v, tick %d: %+v", c.T, tick, x)
			}
			is := up >= 0 && tick >= up || i == 2 && tick >= 2 && tick < 5
			if (b.Role(i) == api.Designated) != is || !is && (b.Role(i) != api.Disabled || b.Forwards(i) || b.Learns(i)) {
				t.Fatalf("%+v, tick %d, port %d: %+v", c.T, tick, i, x.P[i])
			}
			if up >= 0 && tick >= up+bound && !b.Forwards(i) {
				t.Fatalf("%+v, tick %d, port %d does not forward: %+v", c.T, tick, i, x.P[i])
			}
		}
		if !b.Forwards(0) {
			first = tick + 1
		}
		ticks(t, b, 1)
	}
	return first
}

// net are bridges whose ports are linked; what they say waits on the links, each direction's in order.
type net struct {
	t     *testing.T
	b     []*Bridge
	edges []api.Edge
	fails []bool
	wires [][2][]api.BPDU // of each link, to B and to A
}

func newNet(t *testing.T, confs []api.RstpConf, edges []api.Edge) *net {
	n := &net{t: t, edges: edges, fails: make([]bool, len(edges)), wires: make([][2][]api.BPDU, len(edges))}
	for _, c := range confs {
		n.b = append(n.b, made(t, c))
	}
	return n
}

// event is what a bridge did: what goes out of a port that is linked is on its way.
func (n *net) event(bridge int, d Done, e api.Errno) {
	n.t.Helper()
	if e != api.OK {
		n.t.Fatal(e)
	}
	for _, o := range d.Out {
		for l, edge := range n.edges {
			switch {
			case n.fails[l]:
			case edge.A == bridge && edge.PortA == o.Port:
				n.wires[l][0] = append(n.wires[l][0], o.M)
			case edge.B == bridge && edge.PortB == o.Port:
				n.wires[l][1] = append(n.wires[l][1], o.M)
			}
		}
	}
}

// link lets a link fail, or mends it.
func (n *net) link(l int, up bool) {
	n.t.Helper()
	n.fails[l], n.wires[l] = !up, [2][]api.BPDU{}
	e := n.edges[l]
	d, errno := n.b[e.A].Up(e.PortA, up)
	n.event(e.A, d, errno)
	d, errno = n.b[e.B].Up(e.PortB, up)
	n.event(e.B, d, errno)
}

// hear lets the first message of a direction be heard.
func (n *net) hear(l, dir int) {
	n.t.Helper()
	m := n.wires[l][dir][0]
	n.wires[l][dir] = n.wires[l][dir][1:]
	at, port := n.edges[l].B, n.edges[l].PortB
	if dir == 1 {
		at, port = n.edges[l].A, n.edges[l].PortA
	}
	d, e := n.b[at].Hear(port, m)
	n.event(at, d, e)
}

// deliver lets all messages be heard, in some order.
func (n *net) deliver(r *rand.Rand) {
	n.t.Helper()
	for most := 0; ; most++ {
		if most > 20000 {
			n.t.Fatal("they talk for ever")
		}
		var waiting [][2]int
		for l := range n.wires {
			for dir := range 2 {
				if len(n.wires[l][dir]) > 0 {
					waiting = append(waiting, [2]int{l, dir})
				}
			}
		}
		if len(waiting) == 0 {
			return
		}
		w := one(r, waiting)
		n.hear(w[0], w[1])
	}
}

// tick is a second later, behind which all messages come at once; bridges' seconds need not be at the same moment.
func (n *net) tick(r *rand.Rand) {
	n.t.Helper()
	for _, i := range r.Perm(len(n.b)) {
		d, e := n.b[i].Tick()
		n.event(i, d, e)
		if r.Intn(2) == 0 {
			n.deliver(r)
		}
	}
	n.deliver(r)
	for _, b := range n.b {
		holds(n.t, b)
	}
}

// P17.7: two bridges, whatever their settings, and however many other ports are up: the lower ID is the root, the other one's port 0 is Root, and both forward within 12 ticks; and so it stays.
func TestTwo(t *testing.T) {
	r := rand.New(rand.NewSource(2))
	for range 150 {
		confs := []api.RstpConf{anyConf(r), anyConf(r)}
		if vector.Address(confs[0].ID) == vector.Address(confs[1].ID) {
			continue
		}
		n := newNet(t, confs, []api.Edge{{A: 0, B: 1}})
		for i, b := range n.b {
			for port := 1; port < len(confs[i].Costs); port += 1 + r.Intn(3) {
				good(t)(b.Up(port, true))
			}
		}
		for range r.Intn(3) {
			n.tick(r)
		}
		n.link(0, true)
		n.deliver(r)
		low, high := 0, 1
		if confs[1].ID < confs[0].ID {
			low, high = 1, 0
		}
		for tick := 1; tick <= 40; tick++ {
			n.tick(r)
			if tick < 12 {
				continue
			}
			x, y := n.b[low].Tree(), n.b[high].Tree()
			if x.Root != vector.Own(x.ID) || x.RootPort != 0 || y.Root.Root != x.ID || y.RootPort != 0x8001 {
				t.Fatalf("%+v: %+v, %+v", confs, x, y)
			}
			if n.b[low].Role(0) != api.Designated || n.b[high].Role(0) != api.Root || !n.b[low].Forwards(0) || !n.b[high].Forwards(0) {
				t.Fatalf("%+v: tick %d: %+v, %+v", confs, tick, x.P[0], y.P[0])
			}
		}
	}
}

// anyGraph are bridges of different numbers and links between them, by chance; no port has two.
func anyGraph(r *rand.Rand) ([]api.RstpConf, []api.Edge) {
	var confs []api.RstpConf
	var free [][]int
	for i := range 2 + r.Intn(5) {
		c := conf(8)
		c.ID = uint64(7+r.Intn(2))<<60 | uint64(i+1)
		for p := range c.Costs {
			c.Costs[p] = uint32(1 + r.Intn(4))
		}
		confs = append(confs, c)
		free = append(free, r.Perm(8))
	}
	r.Shuffle(len(confs), func(i, j int) { confs[i], confs[j] = confs[j], confs[i] })
	var edges []api.Edge
	for range len(confs) + r.Intn(5) {
		a, b := r.Intn(len(confs)), r.Intn(len(confs))
		if a == b || len(free[a]) == 0 || len(free[b]) == 0 {
			continue
		}
		e := api.Edge{A: a, PortA: free[a][0], B: b, PortB: free[b][0]}
		free[a], free[b] = free[a][1:], free[b][1:]
		edges = append(edges, e)
	}
	return confs, edges
}

// isTheTree holds roles against layer 16's, of what is up, and what forwards against roles.
func (n *net) isTheTree() {
	n.t.Helper()
	var ids []uint64
	for _, b := range n.b {
		ids = append(ids, b.Tree().ID)
	}
	var up []api.Edge
	for l, e := range n.edges {
		e.CostA, e.CostB = n.b[e.A].Tree().P[e.PortA].Cost, n.b[e.B].Tree().P[e.PortB].Cost
		if !n.fails[l] {
			up = append(up, e)
		} else if n.b[e.A].Role(e.PortA) != api.Disabled || n.b[e.B].Role(e.PortB) != api.Disabled || n.b[e.A].Forwards(e.PortA) || n.b[e.B].Forwards(e.PortB) {
			n.t.Fatalf("a link that failed: %+v", e)
		}
	}
	ends, e := span.Ends(ids, up)
	if e != api.OK {
		n.t.Fatal(e)
	}
	for _, end := range ends {
		b := n.b[end.Bridge]
		goes := end.Role == api.Root || end.Role == api.Designated
		if b.Role(end.Port) != end.Role || b.Forwards(end.Port) != goes || b.Learns(end.Port) != goes {
			n.t.Fatalf("%x, %+v: %+v, but %+v", ids, up, end, b.Tree().P[end.Port])
		}
	}
}

// quiet lets seconds go by in which all is heard.
func (n *net) quiet(r *rand.Rand, ticks int) {
	n.t.Helper()
	for range ticks {
		n.tick(r)
	}
}

// P17.5, P17.7 and beyond, with layer 16: networks by chance; links fail and are mended, numbers and costs change: behind a quiet while each port has the role of the one tree.
func TestNets(t *testing.T) {
	r := rand.New(rand.NewSource(16))
	for range 12 {
		confs, edges := anyGraph(r)
		n := newNet(t, confs, edges)
		for l := range edges {
			n.link(l, true)
			if r.Intn(2) == 0 {
				n.deliver(r)
			}
		}
		n.quiet(r, 70)
		n.isTheTree()
		for range 3 {
			for range 1 + r.Intn(3) {
				n.change(r, confs)
			}
			n.quiet(r, 100)
			n.isTheTree()
		}
	}
}

// change lets something happen to a network.
func (n *net) change(r *rand.Rand, confs []api.RstpConf) {
	n.t.Helper()
	at := r.Intn(len(n.b))
	switch k := r.Intn(4); {
	case k < 2 && len(n.edges) > 0:
		l := r.Intn(len(n.edges))
		n.link(l, n.fails[l])
	case k == 2:
		d, e := n.b[at].SetID(uint64(6+r.Intn(4))<<60 | confs[at].ID&0xff)
		n.event(at, d, e)
	default:
		d, e := n.b[at].SetCost(r.Intn(8), uint32(1+r.Intn(9)))
		n.event(at, d, e)
	}
	if r.Intn(2) == 0 {
		n.deliver(r)
	}
}

// Three bridges in a ring: a root port's link fails: the alternate port is the root port at once, and forwards, ahead of any second; and all that must forget what it learned is told.
func TestRing(t *testing.T) {
	r := rand.New(rand.NewSource(3))
	var confs []api.RstpConf
	for i := range 3 {
		c := conf(2)
		c.ID = 0x8000<<48 | uint64(i+1)
		confs = append(confs, c)
	}
	n := newNet(t, confs, []api.Edge{{A: 0, PortA: 0, B: 1, PortB: 0}, {A: 1, PortA: 1, B: 2, PortB: 0}, {A: 2, PortA: 1, B: 0, PortB: 1}})
	for l := range n.edges {
		n.link(l, true)
	}
	n.deliver(r)
	n.quiet(r, 40)
	n.isTheTree()
	if n.b[2].Role(0) != api.Alternate || n.b[2].Role(1) != api.Root {
		t.Fatalf("%+v", n.b[2].Tree())
	}
	flushed := good(t)(n.b[2].Fork().Up(1, false)).Flushed
	n.link(2, false)
	if n.b[2].Role(0) != api.Root || !n.b[2].Forwards(0) || !slices.Contains(flushed, 1) {
		t.Fatalf("%v: %+v", flushed, n.b[2].Tree())
	}
	n.deliver(r)
	n.quiet(r, 40)
	n.isTheTree()
}
