package bridge

import (
	"slices"

	"pontage/api"
	"pontage/bcomp"
	"pontage/cfdb"
	"pontage/fdb"
	"pontage/mac"
	"pontage/queue"
	"pontage/rstp"
	"pontage/tally"
)

// spanning is a bridge's part in the spanning tree.
type spanning struct {
	tree *rstp.Bridge
}

func (s *spanning) gates() []bcomp.Gate {
	return bcomp.Gates(s.tree.Tree())
}

// isUp tells of a port that there is whether it is up.
func (s *spanning) isUp(port int) bool {
	return s.tree.Tree().P[port].Up
}

// learned is what a bridge's frames told it: in the backbone where bridges are, of customers behind which bridges they are.
type learned struct {
	backbone  *fdb.DB
	customers *cfdb.Base
}

// whose is the bridge behind which a customer is known to be. Nobody asks for it of what is to more than one.
func (l *learned) whose(isid int, customer api.MAC) (api.MAC, bool) {
	if mac.Kind(customer) != api.Single {
		return api.MAC{}, false
	}
	return l.customers.Find(isid, customer)
}

func (l *learned) age(clock int) {
	l.backbone.Age(clock)
	l.customers.Age(clock)
}

// forget lets go all that was learned behind these many ports, and of these services.
func (l *learned) forget(ports int, isids []int) {
	for port := range ports {
		l.backbone.Flush(port)
	}
	l.customers.Flush(isids...)
}

// outlets are a bridge's ways out, by ports, and its counters.
type outlets struct {
	lines  []line
	counts *tally.Tally
}

// line is what waits to go out of a port, and the counter of what does.
type line struct {
	*queue.Queue
	out api.Why
}

func newOutlets(kinds []api.PortKind, room int) outlets {
	o := outlets{counts: tally.New()}
	for _, kind := range kinds {
		l := line{out: api.OutBackbone}
		if kind == api.Customer {
			l.out = api.OutCustomer
		}
		l.Queue, _ = queue.New(room)
		o.lines = append(o.lines, l)
	}
	return o
}

// lineOf is a port's; at a port that there is not none waits.
func (o *outlets) lineOf(port int) line {
	if !within(port, 0, len(o.lines)-1) {
		return line{}
	}
	return o.lines[port]
}

func (o *outlets) count(why api.Why) {
	o.counts.Add(why, 1)
}

func (o *outlets) put(copies []api.Copy) {
	for _, c := range copies {
		l := o.lines[c.Port]
		if l.Put(c.Bytes) != api.OK {
			o.count(api.QueueFull)
			continue
		}
		o.count(l.out)
	}
}

// twin is what is provisioned in memory of its own.
func twin(p api.Prov) api.Prov {
	p.Kinds = slices.Clone(p.Kinds)
	p.Maps = slices.Clone(p.Maps)
	p.Carries = slices.Clone(p.Carries)
	p.Members = slices.Clone(p.Members)
	for i, m := range p.Members {
		p.Members[i].Ports = slices.Clone(m.Ports)
	}
	return p
}
