package bridge

import (
	"pontage/api"
	"pontage/bcomp"
	"pontage/icomp"
	"pontage/pbb"
)

// The steps of a customer's frame; each of them may be its last one.
const (
	reading = iota
	classifying
	carrying
)

// Those of a backbone frame.
const (
	arriving = iota
	decoding
	admitting
	relaying
)

// fromHere is no port: it is from where this bridge's customers' frames come into the backbone.
const fromHere = -1

// fromCustomer goes through a customer's frame.
func (b *Bridge) fromCustomer(port int, bytes []byte) {
	var f api.Frame
	var isid int
	var why api.Why
frame:
	for step := reading; ; step++ {
		switch step {
		case reading:
			f, why = icomp.Read(bytes)
		case classifying:
			isid, why = icomp.Classify(b.plan, port, f)
		case carrying:
			b.count(api.InCustomer)
			b.customers.Learn(isid, f.SA, b.plan.Own, b.clock)
			b.carry(port, isid, f)
			break frame
		}
		if why != api.NoWhy {
			b.count(why)
			break frame
		}
	}
}

// carry carries a customer's frame to the others of its service: those of this bridge, those behind other ones, or both, where nobody knows better.
func (b *Bridge) carry(port, isid int, f api.Frame) {
	var copies []api.Copy
	why := api.NoWhy
	at, known := b.whose(isid, f.DA)
	here := known && at == b.plan.Own
	if !known || here {
		copies, _ = icomp.Local(b.plan, port, f) // where that finds nobody, there may be some behind other bridges
	}
	if !here {
		var far []api.Copy
		far, why = b.hidden(port, f, at, known)
		copies = append(copies, far...)
	}
	b.put(copies)
	switch {
	case why != api.NoWhy:
		b.count(why)
	case len(copies) == 0:
		b.count(api.Nobody)
	}
}

// hidden is what goes over the backbone of a customer's frame.
func (b *Bridge) hidden(port int, f api.Frame, at api.MAC, known bool) ([]api.Copy, api.Why) {
	h, why := icomp.Encap(b.plan, port, f, at, known)
	if why != api.NoWhy {
		return nil, why
	}
	bytes, _ := pbb.Encode(h) // what was told without a reason may be
	copies, _ := b.over(fromHere, h, bytes)
	return copies, api.NoWhy
}

// over is what goes out of backbone ports of a backbone frame, and whether it is for the bridge itself as well.
func (b *Bridge) over(from int, h api.BFrame, bytes []byte) ([]api.Copy, bool) {
	at, found := b.backbone.Find(h.B.VID, h.DA)
	ports, itself := bcomp.Out(b.plan, b.gates(), from, h, at, found)
	var copies []api.Copy
	for _, port := range ports {
		copies = append(copies, api.Copy{Port: port, Bytes: bytes})
	}
	return copies, itself
}

// fromBackbone goes through a backbone frame.
func (b *Bridge) fromBackbone(port int, bytes []byte) {
	var h api.BFrame
	var why api.Why
frame:
	for step := arriving; ; step++ {
		switch step {
		case arriving:
			if !b.isUp(port) {
				why = api.PortDown
			}
		case decoding:
			h, why = decode(bytes)
		case admitting:
			why = b.admit(port, h)
		case relaying:
			b.count(api.InBackbone)
			b.relay(port, h, bytes)
			break frame
		}
		if why != api.NoWhy {
			b.count(why)
			break frame
		}
	}
}

// decode is the backbone frame of bytes.
func decode(bytes []byte) (api.BFrame, api.Why) {
	h, e := pbb.Decode(bytes)
	switch e {
	case api.OK:
		return h, api.NoWhy
	case api.ErrLong:
		return h, api.BigFrame
	}
	return h, api.BadFrame
}

// admit is why a backbone frame does not come in. Whence it came is learned first: a port may learn that does not forward yet.
func (b *Bridge) admit(port int, h api.BFrame) api.Why {
	gates := b.gates()
	if bcomp.Learns(b.plan, gates, port, h) {
		b.backbone.Learn(h.B.VID, h.SA, port, b.clock)
	}
	return bcomp.In(b.plan, gates, port, h)
}

// relay sends a backbone frame on its way, and to the customers of this bridge, where it is for them.
func (b *Bridge) relay(port int, h api.BFrame, bytes []byte) {
	why := api.NoWhy
	copies, itself := b.over(port, h, bytes)
	if itself {
		var near []api.Copy
		near, why = b.shown(h)
		copies = append(copies, near...)
	}
	b.put(copies)
	switch {
	case len(copies) > 0: // that it was not for this bridge's customers is no reason, since it went on
	case why != api.NoWhy:
		b.count(why)
	default:
		b.count(api.Nobody)
	}
}

// shown is what goes to customers of a backbone frame. Its bridge is where the customer is who sent it.
func (b *Bridge) shown(h api.BFrame) ([]api.Copy, api.Why) {
	if why := bcomp.Accept(b.plan, h); why != api.NoWhy {
		return nil, why
	}
	b.customers.Learn(h.I.ISID, h.I.SA, h.SA, b.clock)
	return icomp.Decap(b.plan, h)
}
