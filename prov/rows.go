package prov

import (
	"cmp"
	"slices"

	"pontage/api"
)

// put is rows with one more, where it stands in order; it takes the place of the one that stands alike.
func put[R any](rows []R, row R, order func(a, b R) int) []R {
	with := make([]R, 0, len(rows)+1)
	i := 0
	for i < len(rows) && order(rows[i], row) < 0 {
		with = append(with, rows[i])
		i++
	}
	with = append(with, row)
	if i < len(rows) && order(rows[i], row) == 0 {
		i++
	}
	return append(with, rows[i:]...)
}

// without is rows but the one that stands where row would.
func without[R any](rows []R, row R, order func(a, b R) int) []R {
	var rest []R
	for _, r := range rows {
		if order(r, row) != 0 {
			rest = append(rest, r)
		}
	}
	return rest
}

// rises tells whether each row stands ahead of the next one; so none is there twice.
func rises[R any](rows []R, order func(a, b R) int) bool {
	for i := 1; i < len(rows); i++ {
		if order(rows[i-1], rows[i]) >= 0 {
			return false
		}
	}
	return true
}

func byPortAndVID(a, b api.Map) int {
	return cmp.Or(cmp.Compare(a.Port, b.Port), cmp.Compare(a.VID, b.VID))
}

func byISID(a, b api.Carry) int {
	return cmp.Compare(a.ISID, b.ISID)
}

func byVID(a, b api.Member) int {
	return cmp.Compare(a.VID, b.VID)
}

// twin is what is provisioned in memory of its own.
func twin(p api.Prov) api.Prov {
	p.Kinds = slices.Clone(p.Kinds)
	p.Maps = slices.Clone(p.Maps)
	p.Carries = slices.Clone(p.Carries)
	p.Members = slices.Clone(p.Members)
	for i, m := range p.Members {
		p.Members[i] = twinMember(m)
	}
	return p
}

func twinMember(m api.Member) api.Member {
	m.Ports = slices.Clone(m.Ports)
	return m
}
