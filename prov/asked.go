package prov

import (
	"slices"

	"pontage/api"
)

// Service is that of a port's VLAN.
func Service(p api.Prov, port, vid int) (int, bool) {
	for _, m := range p.Maps {
		if m.Port == port && m.VID == vid {
			return m.ISID, true
		}
	}
	return 0, false
}

// VIDOf is the VLAN that a port has of a service.
func VIDOf(p api.Prov, port, isid int) (int, bool) {
	for _, m := range p.Maps {
		if m.Port == port && m.ISID == isid {
			return m.VID, true
		}
	}
	return 0, false
}

// Carrier is a service's backbone VLAN.
func Carrier(p api.Prov, isid int) (int, bool) {
	for _, c := range p.Carries {
		if c.ISID == isid {
			return c.VID, true
		}
	}
	return 0, false
}

// Ports are those of a backbone VLAN; a VLAN may be there without any.
func Ports(p api.Prov, vid int) ([]int, bool) {
	for _, m := range p.Members {
		if m.VID == vid {
			return slices.Clone(m.Ports), true
		}
	}
	return nil, false
}

// Attached are the customers' ports of a service.
func Attached(p api.Prov, isid int) []int {
	var ports []int
	for _, m := range p.Maps {
		if m.ISID == isid {
			ports = append(ports, m.Port)
		}
	}
	return ports
}

// Services are those that a backbone VLAN carries.
func Services(p api.Prov, vid int) []int {
	var isids []int
	for _, c := range p.Carries {
		if c.VID == vid {
			isids = append(isids, c.ISID)
		}
	}
	return isids
}

// Same tells whether all rows of two are the same.
func Same(a, b api.Prov) bool {
	return a.Own == b.Own &&
		slices.Equal(a.Kinds, b.Kinds) &&
		slices.Equal(a.Maps, b.Maps) &&
		slices.Equal(a.Carries, b.Carries) &&
		slices.EqualFunc(a.Members, b.Members, sameMember)
}

func sameMember(a, b api.Member) bool {
	return a.VID == b.VID && slices.Equal(a.Ports, b.Ports)
}
