package prov

import (
	"math"
	"slices"
	"testing"

	"pontage/api"
)

var own = api.MAC{2, 0, 0, 0, 0, 1}

// some is what may be provisioned of a bridge: ports 0, 2, 5 are customers', 1, 3, 4 the backbone's.
func some() api.Prov {
	return api.Prov{
		Own:     own,
		Kinds:   []api.PortKind{api.Customer, api.Backbone, api.Customer, api.Backbone, api.Backbone, api.Customer},
		Maps:    []api.Map{{Port: 0, VID: 100, ISID: 5000}, {Port: 0, VID: 200, ISID: 4000}, {Port: 2, VID: 50, ISID: 5000}, {Port: 2, VID: 100, ISID: 6000}},
		Carries: []api.Carry{{ISID: 4000, VID: 20}, {ISID: 5000, VID: 10}, {ISID: 6000, VID: 10}, {ISID: 7000, VID: 30}},
		Members: []api.Member{{VID: 10, Ports: []int{1, 3}}, {VID: 20, Ports: []int{4}}, {VID: 30}, {VID: 40, Ports: []int{1, 3, 4}}},
	}
}

// full is one that stands at all limits: 8 ports, MaxMaps of each row, the lowest and the highest numbers among them.
func full() api.Prov {
	p := api.Prov{Own: own, Kinds: append(slices.Repeat([]api.PortKind{api.Customer}, 4), slices.Repeat([]api.PortKind{api.Backbone}, 4)...)}
	for i := range 64 {
		isid, vid := 1+i, 1+i
		if i == 63 {
			isid, vid = 1<<24-1, 4094
		}
		p.Members = append(p.Members, api.Member{VID: vid, Ports: []int{4, 5, 6, 7}})
		p.Carries = append(p.Carries, api.Carry{ISID: isid, VID: vid})
	}
	for port := range 4 {
		for i := range 16 {
			vid, isid := 1+i, p.Carries[63-i].ISID
			if i == 15 {
				vid = 4094
			}
			p.Maps = append(p.Maps, api.Map{Port: port, VID: vid, ISID: isid})
		}
	}
	return p
}

func addMap(port, vid, isid int) api.Command {
	return api.Command{Kind: api.AddMap, Map: api.Map{Port: port, VID: vid, ISID: isid}}
}

func delMap(port, vid, isid int) api.Command {
	return api.Command{Kind: api.DelMap, Map: api.Map{Port: port, VID: vid, ISID: isid}}
}

func addCarry(isid, vid int) api.Command {
	return api.Command{Kind: api.AddCarry, Carry: api.Carry{ISID: isid, VID: vid}}
}

func delCarry(isid, vid int) api.Command {
	return api.Command{Kind: api.DelCarry, Carry: api.Carry{ISID: isid, VID: vid}}
}

func setMember(vid int, ports ...int) api.Command {
	return api.Command{Kind: api.SetMember, Member: api.Member{VID: vid, Ports: ports}}
}

func delMember(vid int, ports ...int) api.Command {
	return api.Command{Kind: api.DelMember, Member: api.Member{VID: vid, Ports: ports}}
}

// P18.1: what may be: some rows, none, all limits.
func TestCheckGood(t *testing.T) {
	for name, p := range map[string]api.Prov{
		"some":            some(),
		"full":            full(),
		"one customer":    {Own: own, Kinds: []api.PortKind{api.Customer}},
		"one of backbone": {Own: own, Kinds: []api.PortKind{api.Backbone}, Members: []api.Member{{VID: 1, Ports: []int{0}}}},
		"empty lists":     {Own: own, Kinds: []api.PortKind{api.Customer}, Maps: []api.Map{}, Carries: []api.Carry{}, Members: []api.Member{{VID: 4094, Ports: []int{}}}},
	} {
		if e := Check(p); e != api.OK {
			t.Error(name, e)
		}
	}
}

// P18.1: of each thing that the chapter asks, one that is not so, at its edge and far beyond, where all else is as it may be.
func TestCheckBad(t *testing.T) {
	for name, turn := range map[string]func(p *api.Prov){
		"own: zeros":                func(p *api.Prov) { p.Own = api.MAC{} },
		"own: all":                  func(p *api.Prov) { p.Own = api.MAC{255, 255, 255, 255, 255, 255} },
		"own: a group":              func(p *api.Prov) { p.Own[0] = 3 },
		"own: reserved":             func(p *api.Prov) { p.Own = api.MAC{1, 0x80, 0xc2, 0, 0, 0} },
		"own: a service's":          func(p *api.Prov) { p.Own = api.MAC{1, 0x1e, 0x83, 0, 0x13, 0x88} },
		"kinds: none":               func(p *api.Prov) { *p = api.Prov{Own: own} },
		"kinds: empty":              func(p *api.Prov) { *p = api.Prov{Own: own, Kinds: []api.PortKind{}} },
		"kinds: nine":               func(p *api.Prov) { p.Kinds = append(p.Kinds, api.Customer, api.Backbone, api.Customer) },
		"kinds: 0":                  func(p *api.Prov) { p.Kinds = append(p.Kinds, api.NoPort) },
		"kinds: 3":                  func(p *api.Prov) { p.Kinds = append(p.Kinds, 3) },
		"kinds: -1":                 func(p *api.Prov) { p.Kinds = append(p.Kinds, -1) },
		"members: two alike":        func(p *api.Prov) { p.Members[1].VID = 10; p.Carries[0].VID = 10 },
		"members: fall":             func(p *api.Prov) { p.Members[3].VID = 29 },
		"members: VID 0":            func(p *api.Prov) { p.Members = slices.Insert(p.Members, 0, api.Member{}) },
		"members: VID -1":           func(p *api.Prov) { p.Members = slices.Insert(p.Members, 0, api.Member{VID: -1}) },
		"members: VID 4095":         func(p *api.Prov) { p.Members[3].VID = 4095 },
		"members: port twice":       func(p *api.Prov) { p.Members[3].Ports = []int{1, 1, 3} },
		"members: ports fall":       func(p *api.Prov) { p.Members[3].Ports = []int{1, 4, 3} },
		"members: port -1":          func(p *api.Prov) { p.Members[3].Ports = []int{-1, 1} },
		"members: port 6":           func(p *api.Prov) { p.Members[3].Ports = []int{1, 6} },
		"members: least port":       func(p *api.Prov) { p.Members[3].Ports = []int{math.MinInt, 1} },
		"members: greatest port":    func(p *api.Prov) { p.Members[3].Ports = []int{math.MaxInt} },
		"members: customer's first": func(p *api.Prov) { p.Members[3].Ports = []int{0, 1} },
		"members: customer's last":  func(p *api.Prov) { p.Members[3].Ports = []int{1, 5} },
		"carries: two alike":        func(p *api.Prov) { p.Carries[3] = api.Carry{ISID: 6000, VID: 10} },
		"carries: one ISID twice":   func(p *api.Prov) { p.Carries[3].ISID = 6000 },
		"carries: fall":             func(p *api.Prov) { p.Carries[3].ISID = 5999 },
		"carries: ISID 0":           func(p *api.Prov) { p.Carries = slices.Insert(p.Carries, 0, api.Carry{VID: 10}) },
		"carries: ISID -1":          func(p *api.Prov) { p.Carries = slices.Insert(p.Carries, 0, api.Carry{ISID: -1, VID: 10}) },
		"carries: ISID 2^24":        func(p *api.Prov) { p.Carries[3].ISID = 1 << 24 },
		"carries: VID missing":      func(p *api.Prov) { p.Carries[3].VID = 31 },
		"carries: VID 0":            func(p *api.Prov) { p.Carries[3].VID = 0 },
		"maps: two alike":           func(p *api.Prov) { p.Maps[3] = p.Maps[2] },
		"maps: VID twice":           func(p *api.Prov) { p.Maps[3].VID = 50 },
		"maps: VIDs fall":           func(p *api.Prov) { p.Maps[3].VID = 49 },
		"maps: ports fall":          func(p *api.Prov) { p.Maps[3] = api.Map{Port: 0, VID: 300, ISID: 6000} },
		"maps: VID 0":               func(p *api.Prov) { p.Maps[0].VID = 0 },
		"maps: VID -1":              func(p *api.Prov) { p.Maps[0].VID = -1 },
		"maps: VID 4095":            func(p *api.Prov) { p.Maps[3].VID = 4095 },
		"maps: port -1":             func(p *api.Prov) { p.Maps[0].Port = -1 },
		"maps: port 6":              func(p *api.Prov) { p.Maps[3].Port = 6 },
		"maps: least port":          func(p *api.Prov) { p.Maps[0].Port = math.MinInt },
		"maps: greatest port":       func(p *api.Prov) { p.Maps[3].Port = math.MaxInt },
		"maps: backbone's":          func(p *api.Prov) { p.Maps[3].Port = 3 },
		"maps: ISID missing":        func(p *api.Prov) { p.Maps[3].ISID = 6001 },
		"maps: ISID 0":              func(p *api.Prov) { p.Maps[3].ISID = 0 },
		"maps: ISID twice":          func(p *api.Prov) { p.Maps[3].ISID = 5000 },
		"maps: ISID twice, apart":   func(p *api.Prov) { p.Maps = append(p.Maps, api.Map{Port: 2, VID: 101, ISID: 5000}) },
	} {
		p := some()
		turn(&p)
		if e := Check(p); e != api.ErrProv {
			t.Error(name, e)
		}
		q, e := Do(p, api.Command{Kind: api.SetMember, Member: api.Member{VID: 77}})
		if e != api.ErrProv || !alike(p, q) {
			t.Error(name, e, q)
		}
	}
}

// P18.1: 65 of one row are too many, and of that row alone.
func TestCheckMany(t *testing.T) {
	for name, turn := range map[string]func(p *api.Prov){
		"members": func(p *api.Prov) { p.Members = slices.Insert(p.Members, 63, api.Member{VID: 64}) },
		"carries": func(p *api.Prov) { p.Carries = slices.Insert(p.Carries, 63, api.Carry{ISID: 64, VID: 1}) },
		"maps": func(p *api.Prov) {
			p.Maps = append(p.Maps[:63], api.Map{Port: 3, VID: 4093, ISID: 1}, p.Maps[63])
		},
	} {
		p := full()
		turn(&p)
		if e := Check(p); e != api.ErrProv {
			t.Error(name, e)
		}
	}
}

// P18.2, and the chapter's example.
func TestExample(t *testing.T) {
	p := api.Prov{Own: own, Kinds: []api.PortKind{api.Customer, api.Backbone}}
	for _, c := range []api.Command{setMember(10, 1), addCarry(5000, 10), addMap(0, 100, 5000)} {
		q, e := Do(p, c)
		if e != api.OK {
			t.Fatal(c, e)
		}
		p = q
	}
	if isid, ok := Service(p, 0, 100); isid != 5000 || !ok {
		t.Error(isid, ok)
	}
	if !alike(p, api.Prov{
		Own:     own,
		Kinds:   []api.PortKind{api.Customer, api.Backbone},
		Maps:    []api.Map{{Port: 0, VID: 100, ISID: 5000}},
		Carries: []api.Carry{{ISID: 5000, VID: 10}},
		Members: []api.Member{{VID: 10, Ports: []int{1}}},
	}) {
		t.Error(p)
	}
}

// P18.2: what a command does to some rows: what is put stands in order, first, between others, and last.
func TestDoGood(t *testing.T) {
	for i, x := range []struct {
		c    api.Command
		turn func(p *api.Prov)
	}{
		{addMap(0, 1, 7000), func(p *api.Prov) { p.Maps = slices.Insert(p.Maps, 0, api.Map{Port: 0, VID: 1, ISID: 7000}) }},
		{addMap(0, 150, 7000), func(p *api.Prov) { p.Maps = slices.Insert(p.Maps, 1, api.Map{Port: 0, VID: 150, ISID: 7000}) }},
		{addMap(0, 4094, 6000), func(p *api.Prov) { p.Maps = slices.Insert(p.Maps, 2, api.Map{Port: 0, VID: 4094, ISID: 6000}) }},
		{addMap(2, 200, 4000), func(p *api.Prov) { p.Maps = append(p.Maps, api.Map{Port: 2, VID: 200, ISID: 4000}) }},
		{addMap(5, 1, 5000), func(p *api.Prov) { p.Maps = append(p.Maps, api.Map{Port: 5, VID: 1, ISID: 5000}) }},
		{delMap(0, 100, 5000), func(p *api.Prov) { p.Maps = p.Maps[1:] }},
		{delMap(0, 200, 4000), func(p *api.Prov) { p.Maps = slices.Delete(p.Maps, 1, 2) }},
		{delMap(2, 100, 6000), func(p *api.Prov) { p.Maps = p.Maps[:3] }},
		{addCarry(1, 40), func(p *api.Prov) { p.Carries = slices.Insert(p.Carries, 0, api.Carry{ISID: 1, VID: 40}) }},
		{addCarry(5500, 10), func(p *api.Prov) { p.Carries = slices.Insert(p.Carries, 2, api.Carry{ISID: 5500, VID: 10}) }},
		{addCarry(1<<24-1, 30), func(p *api.Prov) { p.Carries = append(p.Carries, api.Carry{ISID: 1<<24 - 1, VID: 30}) }},
		{delCarry(7000, 30), func(p *api.Prov) { p.Carries = p.Carries[:3] }},
		{setMember(1, 4), func(p *api.Prov) {
			p.Members = slices.Insert(p.Members, 0, api.Member{VID: 1, Ports: []int{4}})
		}},
		{setMember(25), func(p *api.Prov) { p.Members = slices.Insert(p.Members, 2, api.Member{VID: 25}) }},
		{setMember(4094, 1, 3, 4), func(p *api.Prov) { p.Members = append(p.Members, api.Member{VID: 4094, Ports: []int{1, 3, 4}}) }},
		{setMember(10, 4), func(p *api.Prov) { p.Members[0].Ports = []int{4} }},
		{setMember(30, 1, 4), func(p *api.Prov) { p.Members[2].Ports = []int{1, 4} }},
		{setMember(40), func(p *api.Prov) { p.Members[3].Ports = nil }},
		{setMember(20, 4), func(p *api.Prov) {}},
		{delMember(40), func(p *api.Prov) { p.Members = p.Members[:3] }},
		{delMember(40, 9, 9, -1), func(p *api.Prov) { p.Members = p.Members[:3] }},
	} {
		want := some()
		x.turn(&want)
		if got, e := Do(some(), x.c); e != api.OK || !alike(got, want) {
			t.Errorf("%d: %+v, %d", i, got, e)
		}
	}
}

// P18.2: what a command is refused for, each error at its edges, and the one that is named first where several apply.
func TestDoBad(t *testing.T) {
	for i, x := range []struct {
		c api.Command
		e api.Errno
	}{
		{addMap(0, 0, 7000), api.ErrArg},
		{addMap(0, 4095, 7000), api.ErrArg},
		{addMap(0, 300, 0), api.ErrArg},
		{addMap(0, 300, 1<<24), api.ErrArg},
		{addMap(0, -100, 5000), api.ErrArg},
		{addMap(0, 100, -5000), api.ErrArg},
		{addMap(-1, 0, 7000), api.ErrArg},
		{addMap(6, 300, 0), api.ErrArg},
		{addMap(1, 0, 7000), api.ErrArg},
		{addMap(-1, 300, 7000), api.ErrRange},
		{addMap(6, 300, 7000), api.ErrRange},
		{addMap(math.MinInt, 1, 1), api.ErrRange},
		{addMap(math.MaxInt, 4094, 1<<24-1), api.ErrRange},
		{addMap(1, 300, 7000), api.ErrKind},
		{addMap(4, 300, 9), api.ErrKind},
		{addMap(0, 100, 7000), api.ErrThere},
		{addMap(0, 300, 5000), api.ErrThere},
		{addMap(0, 100, 5000), api.ErrThere},
		{addMap(0, 200, 5000), api.ErrThere},
		{addMap(0, 100, 9), api.ErrThere},
		{addMap(0, 300, 7001), api.ErrMissing},
		{addMap(5, 1, 1), api.ErrMissing},
		{delMap(0, 100, 4000), api.ErrMissing},
		{delMap(0, 101, 5000), api.ErrMissing},
		{delMap(2, 100, 5000), api.ErrMissing},
		{delMap(1, 100, 5000), api.ErrMissing},
		{delMap(-1, 0, 0), api.ErrMissing},
		{addCarry(0, 10), api.ErrArg},
		{addCarry(1<<24, 10), api.ErrArg},
		{addCarry(8000, 0), api.ErrArg},
		{addCarry(8000, 4095), api.ErrArg},
		{addCarry(5000, 0), api.ErrArg},
		{addCarry(-1, 11), api.ErrArg},
		{addCarry(5000, 10), api.ErrThere},
		{addCarry(5000, 20), api.ErrThere},
		{addCarry(5000, 11), api.ErrThere},
		{addCarry(8000, 11), api.ErrMissing},
		{addCarry(1, 1), api.ErrMissing},
		{addCarry(1<<24-1, 4094), api.ErrMissing},
		{delCarry(7000, 10), api.ErrMissing},
		{delCarry(5000, 20), api.ErrMissing},
		{delCarry(8000, 10), api.ErrMissing},
		{delCarry(0, 0), api.ErrMissing},
		{delCarry(5000, 10), api.ErrUse},
		{delCarry(6000, 10), api.ErrUse},
		{delCarry(4000, 20), api.ErrUse},
		{setMember(0, 1), api.ErrArg},
		{setMember(4095, 1), api.ErrArg},
		{setMember(-10), api.ErrArg},
		{setMember(10, 3, 1), api.ErrArg},
		{setMember(10, 1, 1), api.ErrArg},
		{setMember(10, 9, 8), api.ErrArg},
		{setMember(10, 1, 3, 0), api.ErrArg},
		{setMember(0, 9), api.ErrArg},
		{setMember(10, -1, 1), api.ErrRange},
		{setMember(10, 1, 6), api.ErrRange},
		{setMember(10, 0, 6), api.ErrRange},
		{setMember(50, math.MinInt, math.MaxInt), api.ErrRange},
		{setMember(50, 0, 1), api.ErrKind},
		{setMember(50, 1, 3, 5), api.ErrKind},
		{setMember(10, 2), api.ErrKind},
		{delMember(50), api.ErrMissing},
		{delMember(0), api.ErrMissing},
		{delMember(-1), api.ErrMissing},
		{delMember(10), api.ErrUse},
		{delMember(20), api.ErrUse},
		{delMember(30), api.ErrUse},
		{delMember(10, 1, 3), api.ErrUse},
	} {
		if got, e := Do(some(), x.c); e != x.e || !alike(got, some()) {
			t.Errorf("%d: %+v: %d, %+v", i, x.c, e, got)
		}
	}
}

// P18.2: what has MaxMaps takes no more, but a Member in another one's place; one more than it has below that is taken.
func TestDoMany(t *testing.T) {
	p := full()
	for i, x := range []struct {
		c api.Command
		e api.Errno
	}{
		{addMap(0, 100, 1), api.ErrMany},
		{addMap(0, 100, 65), api.ErrMissing},
		{addMap(0, 1, 1), api.ErrThere},
		{addMap(4, 100, 1), api.ErrKind},
		{addCarry(100, 1), api.ErrMany},
		{addCarry(100, 100), api.ErrMissing},
		{addCarry(1, 100), api.ErrThere},
		{setMember(100), api.ErrMany},
		{setMember(100, 4, 7), api.ErrMany},
		{setMember(100, 3), api.ErrKind},
		{setMember(100, 8), api.ErrRange},
	} {
		if got, e := Do(p, x.c); e != x.e || !alike(got, p) {
			t.Errorf("%d: %d, %+v", i, e, got)
		}
	}
	if got, e := Do(p, setMember(4094, 5)); e != api.OK || len(got.Members) != 64 || !slices.Equal(got.Members[63].Ports, []int{5}) {
		t.Error(e, got)
	}
	for i, c := range []api.Command{delMap(3, 1, 1<<24-1), addMap(3, 4093, 1), delCarry(2, 2), delMember(2), setMember(2, 4), addCarry(2, 2)} {
		got, e := Do(p, c)
		if e != api.OK {
			t.Fatal(i, e)
		}
		p = got
	}
	if len(p.Maps) != 64 || len(p.Carries) != 64 || len(p.Members) != 64 || Check(p) != api.OK {
		t.Error(p)
	}
}

// P18.2: a kind of another layer's, or none, is refused, whatever stands beside it; behind Check's error.
func TestDoOther(t *testing.T) {
	for _, kind := range []api.CmdKind{api.NoCmd, api.AddStatic, api.DelStatic, api.SetID, api.SetCost, api.FlushAll, 12, -1, math.MaxInt, math.MinInt} {
		c := api.Command{Kind: kind, Map: api.Map{Port: 0, VID: 300, ISID: 7000}, Carry: api.Carry{ISID: 1, VID: 10}, Member: api.Member{VID: 40}}
		if got, e := Do(some(), c); e != api.ErrArg || !alike(got, some()) {
			t.Error(kind, e, got)
		}
		if got, e := Do(api.Prov{}, c); e != api.ErrProv || !alike(got, api.Prov{}) {
			t.Error(kind, e, got)
		}
	}
}

// P18.2: of a command its own row alone is asked; the others may be anything.
func TestDoItsRow(t *testing.T) {
	for _, c := range []api.Command{addMap(0, 300, 7000), delMap(0, 100, 5000), addCarry(1, 10), delCarry(7000, 30), setMember(50, 1), delMember(40)} {
		want, e := Do(some(), c)
		if e != api.OK {
			t.Error(c, e)
		}
		other := c
		if c.Kind != api.AddMap && c.Kind != api.DelMap {
			other.Map = api.Map{Port: 2, VID: 50, ISID: 5000}
		}
		if c.Kind != api.AddCarry && c.Kind != api.DelCarry {
			other.Carry = api.Carry{ISID: 6000, VID: 10}
		}
		if c.Kind != api.SetMember && c.Kind != api.DelMember {
			other.Member = api.Member{VID: 10, Ports: []int{4, 4}}
		}
		other.Entry, other.ID, other.Port, other.Cost = api.Entry{VID: -1}, 9, -1, 9
		if got, e := Do(some(), other); e != api.OK || !alike(got, want) {
			t.Error(c, e, got)
		}
	}
}

// P18.3: what is asked, of what may be.
func TestAsked(t *testing.T) {
	p := some()
	for _, m := range p.Maps {
		if isid, ok := Service(p, m.Port, m.VID); isid != m.ISID || !ok {
			t.Error(m, isid, ok)
		}
		if vid, ok := VIDOf(p, m.Port, m.ISID); vid != m.VID || !ok {
			t.Error(m, vid, ok)
		}
	}
	for _, c := range p.Carries {
		if vid, ok := Carrier(p, c.ISID); vid != c.VID || !ok {
			t.Error(c, vid, ok)
		}
	}
	for _, m := range p.Members {
		if ports, ok := Ports(p, m.VID); !slices.Equal(ports, m.Ports) || !ok {
			t.Error(m, ports, ok)
		}
	}
	for isid, want := range map[int][]int{4000: {0}, 5000: {0, 2}, 6000: {2}, 7000: nil, 5001: nil, 0: nil, -1: nil} {
		if got := Attached(p, isid); !slices.Equal(got, want) {
			t.Error(isid, got)
		}
	}
	for vid, want := range map[int][]int{10: {5000, 6000}, 20: {4000}, 30: {7000}, 40: nil, 11: nil, 0: nil, -1: nil} {
		if got := Services(p, vid); !slices.Equal(got, want) {
			t.Error(vid, got)
		}
	}
}

// P18.3: 0 (none) and false, where there is none: of numbers of others, and of none at all.
func TestAskedNone(t *testing.T) {
	for _, p := range []api.Prov{some(), {}} {
		for _, x := range [][2]int{{0, 50}, {2, 200}, {1, 100}, {5, 100}, {-1, 100}, {0, 0}, {0, -1}, {math.MinInt, math.MaxInt}} {
			if isid, ok := Service(p, x[0], x[1]); isid != 0 || ok {
				t.Error(x, isid, ok)
			}
		}
		for _, x := range [][2]int{{0, 6000}, {2, 4000}, {2, 7000}, {1, 5000}, {5, 5000}, {-1, 5000}, {0, 0}, {0, -1}, {math.MinInt, math.MaxInt}} {
			if vid, ok := VIDOf(p, x[0], x[1]); vid != 0 || ok {
				t.Error(x, vid, ok)
			}
		}
		for _, x := range []int{0, -1, 10, 20, 3999, 7001, math.MinInt, math.MaxInt} {
			if vid, ok := Carrier(p, x); vid != 0 || ok {
				t.Error(x, vid, ok)
			}
		}
		for _, x := range []int{0, -1, 1, 3, 9, 41, 5000, math.MinInt, math.MaxInt} {
			if ports, ok := Ports(p, x); len(ports) != 0 || ok {
				t.Error(x, ports, ok)
			}
		}
	}
}

// P18.3: of one that may not be, what stands first is told, whatever it is, and all in the order in which they stand.
func TestAskedOfAny(t *testing.T) {
	p := api.Prov{
		Maps:    []api.Map{{Port: -7, VID: 9, ISID: 3}, {Port: 99, VID: -5, ISID: 4}, {Port: -7, VID: 9, ISID: 1}, {Port: -7, VID: 2, ISID: 3}, {Port: -7, VID: 9, ISID: 3}, {Port: -9, VID: 0, ISID: 3}},
		Carries: []api.Carry{{ISID: 8, VID: -2}, {ISID: 5, VID: -2}, {ISID: 8, VID: 6}, {ISID: 0, VID: -2}, {ISID: 8, VID: -2}},
		Members: []api.Member{{VID: 6, Ports: []int{5, -1, 5}}, {VID: 0}, {VID: 6, Ports: []int{1}}, {VID: 0, Ports: []int{2}}},
	}
	if isid, ok := Service(p, -7, 9); isid != 3 || !ok {
		t.Error(isid, ok)
	}
	if vid, ok := VIDOf(p, -7, 3); vid != 9 || !ok {
		t.Error(vid, ok)
	}
	if vid, ok := VIDOf(p, -9, 3); vid != 0 || !ok {
		t.Error(vid, ok)
	}
	if vid, ok := Carrier(p, 8); vid != -2 || !ok {
		t.Error(vid, ok)
	}
	if ports, ok := Ports(p, 6); !slices.Equal(ports, []int{5, -1, 5}) || !ok {
		t.Error(ports, ok)
	}
	if ports, ok := Ports(p, 0); len(ports) != 0 || !ok {
		t.Error(ports, ok)
	}
	if got := Attached(p, 3); !slices.Equal(got, []int{-7, -7, -7, -9}) {
		t.Error(got)
	}
	if got := Services(p, -2); !slices.Equal(got, []int{8, 5, 0, 8}) {
		t.Error(got)
	}
}

// P18.4: the same are the same, and nothing and none are one; any one thing that is otherwise, or stands elsewhere, is seen from both sides.
func TestSame(t *testing.T) {
	if !Same(some(), some()) || !Same(full(), full()) || !Same(api.Prov{}, api.Prov{}) {
		t.Error("the same")
	}
	empty := api.Prov{Kinds: []api.PortKind{}, Maps: []api.Map{}, Carries: []api.Carry{}, Members: []api.Member{}}
	if !Same(empty, api.Prov{}) || !Same(api.Prov{}, empty) {
		t.Error("nothing and none")
	}
	none := some()
	none.Members[2].Ports = []int{}
	if !Same(none, some()) || !Same(some(), none) {
		t.Error("nothing and none, of a Member")
	}
	for name, turn := range map[string]func(p *api.Prov){
		"own":           func(p *api.Prov) { p.Own[5]++ },
		"own's first":   func(p *api.Prov) { p.Own[0]++ },
		"a kind":        func(p *api.Prov) { p.Kinds[5] = api.Backbone },
		"fewer kinds":   func(p *api.Prov) { p.Kinds = p.Kinds[:5] },
		"no kinds":      func(p *api.Prov) { p.Kinds = nil },
		"map's port":    func(p *api.Prov) { p.Maps[3].Port++ },
		"map's VID":     func(p *api.Prov) { p.Maps[0].VID++ },
		"map's ISID":    func(p *api.Prov) { p.Maps[1].ISID++ },
		"fewer maps":    func(p *api.Prov) { p.Maps = p.Maps[:3] },
		"maps turned":   func(p *api.Prov) { slices.Reverse(p.Maps) },
		"no maps":       func(p *api.Prov) { p.Maps = nil },
		"carry's ISID":  func(p *api.Prov) { p.Carries[0].ISID++ },
		"carry's VID":   func(p *api.Prov) { p.Carries[3].VID++ },
		"fewer carries": func(p *api.Prov) { p.Carries = p.Carries[1:] },
		"no carries":    func(p *api.Prov) { p.Carries = nil },
		"member's VID":  func(p *api.Prov) { p.Members[3].VID++ },
		"member's port": func(p *api.Prov) { p.Members[0].Ports[1]++ },
		"fewer ports":   func(p *api.Prov) { p.Members[0].Ports = p.Members[0].Ports[:1] },
		"no ports":      func(p *api.Prov) { p.Members[1].Ports = nil },
		"fewer members": func(p *api.Prov) { p.Members = p.Members[:3] },
		"no members":    func(p *api.Prov) { p.Members = nil },
		"ports turned":  func(p *api.Prov) { slices.Reverse(p.Members[3].Ports) },
	} {
		p := some()
		turn(&p)
		if Same(p, some()) || Same(some(), p) || !Same(p, p) {
			t.Error(name)
		}
	}
}

// P18.8: what Do tells shares no memory with what was handed in, without an error, with one, and with Check's; nor does an answer's row share any with another one.
func TestDoMemory(t *testing.T) {
	wrong := some()
	wrong.Own = api.MAC{}
	for _, x := range []struct {
		p api.Prov
		c api.Command
	}{
		{some(), addMap(5, 1, 7000)}, {some(), delMap(0, 100, 5000)}, {some(), delMap(2, 100, 6000)},
		{some(), addCarry(1, 10)}, {some(), addCarry(9000, 10)}, {some(), delCarry(7000, 30)},
		{some(), setMember(50, 1, 3)}, {some(), setMember(5, 1, 3)}, {some(), setMember(10, 1, 3)}, {some(), delMember(40)},
		{some(), addMap(0, 100, 5000)}, {some(), api.Command{}}, {wrong, addMap(5, 1, 7000)}, {full(), setMember(100)},
	} {
		p := roomy(x.p)
		was, c := deep(p), x.c
		c.Member.Ports = append(make([]int, 0, 9), x.c.Member.Ports...)
		ports := slices.Clone(c.Member.Ports)
		first, _ := Do(p, c)
		told := deep(first)
		second, _ := Do(p, c)
		if !alike(p, was) || !slices.Equal(c.Member.Ports, ports) {
			t.Error("handed in, and changed", x.c, p)
		}
		scratch(p)
		fill(c.Member.Ports)
		if !alike(first, told) || !alike(second, told) {
			t.Error("shared with what was handed in", x.c, first)
		}
		scratch(first)
		if !alike(second, told) {
			t.Error("shared by two answers", x.c, second)
		}
		scratchOne(second, t)
	}
}

// P18.8: what is asked is new memory, too, and asking changes nothing.
func TestAskedMemory(t *testing.T) {
	p := roomy(some())
	for range 2 {
		ports, _ := Ports(p, 40)
		attached, services := Attached(p, 5000), Services(p, 10)
		if !slices.Equal(ports, []int{1, 3, 4}) || !slices.Equal(attached, []int{0, 2}) || !slices.Equal(services, []int{5000, 6000}) {
			t.Error(ports, attached, services)
		}
		fill(ports[:cap(ports)])
		fill(attached[:cap(attached)])
		fill(services[:cap(services)])
		Check(p)
		Same(p, p)
	}
	if !alike(p, some()) {
		t.Error(p)
	}
}

// alike is what Same should be, by another way.
func alike(a, b api.Prov) bool {
	if a.Own != b.Own || len(a.Kinds) != len(b.Kinds) || len(a.Maps) != len(b.Maps) || len(a.Carries) != len(b.Carries) || len(a.Members) != len(b.Members) {
		return false
	}
	other := 0
	for i, kind := range a.Kinds {
		other += mark(kind != b.Kinds[i])
	}
	for i, m := range a.Maps {
		other += mark(m != b.Maps[i])
	}
	for i, c := range a.Carries {
		other += mark(c != b.Carries[i])
	}
	for i, m := range a.Members {
		other += mark(m.VID != b.Members[i].VID || len(m.Ports) != len(b.Members[i].Ports))
		for j := range min(len(m.Ports), len(b.Members[i].Ports)) {
			other += mark(m.Ports[j] != b.Members[i].Ports[j])
		}
	}
	return other == 0
}

func mark(is bool) int {
	if is {
		return 1
	}
	return 0
}

// deep is another one of the same rows, none of whose lists is nil.
func deep(p api.Prov) api.Prov {
	q := api.Prov{Own: p.Own}
	q.Kinds = append([]api.PortKind{}, p.Kinds...)
	q.Maps = append([]api.Map{}, p.Maps...)
	q.Carries = append([]api.Carry{}, p.Carries...)
	q.Members = []api.Member{}
	for _, m := range p.Members {
		q.Members = append(q.Members, api.Member{VID: m.VID, Ports: append([]int{}, m.Ports...)})
	}
	return q
}

// roomy is the same with room behind each list, into which one that appends would write.
func roomy(p api.Prov) api.Prov {
	q := api.Prov{Own: p.Own}
	q.Kinds = append(make([]api.PortKind, 0, 90), p.Kinds...)
	q.Maps = append(make([]api.Map, 0, 90), p.Maps...)
	q.Carries = append(make([]api.Carry, 0, 90), p.Carries...)
	q.Members = make([]api.Member, 0, 90)
	for _, m := range p.Members {
		q.Members = append(q.Members, api.Member{VID: m.VID, Ports: append(make([]int, 0, 90), m.Ports...)})
	}
	return q
}

func fill(list []int) {
	for i := range list {
		list[i] = -77
	}
}

// scratch writes over all that one has, and over the room behind it.
func scratch(p api.Prov) {
	for i := range p.Kinds[:cap(p.Kinds)] {
		p.Kinds[:cap(p.Kinds)][i] = -77
	}
	for i := range p.Maps[:cap(p.Maps)] {
		p.Maps[:cap(p.Maps)][i] = api.Map{Port: -77}
	}
	for i := range p.Carries[:cap(p.Carries)] {
		p.Carries[:cap(p.Carries)][i] = api.Carry{ISID: -77}
	}
	for _, m := range p.Members {
		fill(m.Ports[:cap(m.Ports)])
	}
	for i := range p.Members[:cap(p.Members)] {
		p.Members[:cap(p.Members)][i] = api.Member{VID: -77}
	}
}

// scratchOne writes over one Member's Ports after the other: those of the others stay.
func scratchOne(p api.Prov, t *testing.T) {
	for i := range p.Members {
		want := deep(p)
		fill(want.Members[i].Ports)
		fill(p.Members[i].Ports[:cap(p.Members[i].Ports)])
		if !alike(p, want) {
			t.Error("shared by two Members", i, p)
		}
	}
}
