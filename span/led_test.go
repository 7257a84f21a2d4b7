package span

import (
	"slices"
	"testing"

	"pontage/api"
	"pontage/roles"
)

// With layer 12, which selects roles bridge by bridge of what each port heard: told round by round till nothing is new, all come to the roles that are said here.

// bridges are a graph's, as each begins: its ports in edges are up, all others disabled.
func bridges(g graph) []api.Tree {
	var list []api.Tree
	for i, id := range g.ids {
		x := api.Tree{ID: id}
		for place := range api.MaxPorts {
			x.P = append(x.P, api.Port{ID: uint16(0x8001 + place)})
		}
		for _, h := range g.hops(i) {
			x.P[h.port].Cost, x.P[h.port].Is = uint32(h.cost), api.InfoAged
		}
		list = append(list, roles.Select(x))
	}
	return list
}

// round is what bridges select once each heard all others; a port keeps the better one of what it tells and what it hears.
func round(g graph, list []api.Tree) []api.Tree {
	var next []api.Tree
	for i, x := range list {
		x.P = slices.Clone(x.P)
		for _, h := range g.hops(i) {
			p := &x.P[h.port]
			p.Is, p.Pri = api.InfoMine, p.Desig
			if told := list[h.to].P[h.there].Desig; order(told, p.Desig) < 0 {
				p.Is, p.Pri = api.InfoReceived, told
			}
		}
		next = append(next, roles.Select(x))
	}
	return next
}

func TestRolesComeHere(t *testing.T) {
	for _, g := range graphs(t, 9, 300) {
		list := bridges(g)
		for range 3 * len(g.ids) {
			list = round(g, list)
		}
		x := ask(g.ids, g.edges)
		for i, n := range x.nodes {
			port := uint16(0x8001 + n.RootPort)
			if n.RootPort == -1 {
				port = 0
			}
			if y := list[i]; y.Root.Root != n.Root || y.Root.Cost != n.Cost || y.RootPort != port {
				t.Fatalf("%+v: bridge %d: %+v, but %+v", g, i, n, y)
			}
		}
		for _, e := range x.ends {
			if p := list[e.Bridge].P[e.Port]; p.Wanted != e.Role || e.Role != api.Designated && p.Pri != e.V || e.Role == api.Designated && p.Desig != e.V {
				t.Fatalf("%+v: %+v, but %+v", g, e, p)
			}
		}
	}
}
