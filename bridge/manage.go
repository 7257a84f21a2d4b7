package bridge

import (
	"pontage/api"
	"pontage/prov"
)

// Do does a command.
func (b *Bridge) Do(c api.Command) ([]api.Copy, api.Errno) {
	if !b.made() {
		return nil, api.ErrNil
	}
	switch c.Kind {
	case api.AddMap, api.DelMap, api.AddCarry, api.DelCarry, api.SetMember, api.DelMember:
		return nil, b.provision(c)
	case api.AddStatic:
		return nil, b.addStatic(c.Entry)
	case api.DelStatic:
		return nil, b.backbone.Unstatic(c.Entry.VID, c.Entry.M)
	case api.SetID:
		return b.behind(b.tree.SetID(c.ID))
	case api.SetCost:
		if e := b.lacks(c.Port, api.Backbone); e != api.OK {
			return nil, e
		}
		return b.behind(b.tree.SetCost(c.Port, c.Cost))
	case api.FlushAll:
		b.forget(len(b.plan.Kinds), b.services())
		return nil, api.OK
	}
	return nil, api.ErrArg
}

// provision lets something else be provisioned. What was learned of a service, or a VLAN, that is no more would be told of another one of its number.
func (b *Bridge) provision(c api.Command) api.Errno {
	plan, e := prov.Do(b.plan, c)
	if e != api.OK {
		return e
	}
	b.plan = plan
	switch c.Kind {
	case api.DelCarry:
		b.customers.Flush(c.Carry.ISID)
	case api.DelMember:
		b.backbone.Drop(c.Member.VID)
	}
	return api.OK
}

func (b *Bridge) addStatic(n api.Entry) api.Errno {
	if e := b.lacks(n.Port, api.Backbone); e != api.OK {
		return e
	}
	return b.backbone.Static(n.VID, n.M, n.Port)
}

// services are those that there are: of no other one anything was learned.
func (b *Bridge) services() []int {
	var isids []int
	for _, c := range b.plan.Carries {
		isids = append(isids, c.ISID)
	}
	return isids
}
