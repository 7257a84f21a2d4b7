package prov

import (
	"cmp"
	"math/rand"
	"slices"
	"testing"

	"pontage/api"
)

// What the document says, said again without the package: rows are kept in maps, and laid out anew where they are told.

// book is what is provisioned, kept by what each row is found by.
type book struct {
	own     api.MAC
	kinds   []api.PortKind
	isids   map[[2]int]int // of a port and a VID
	carrier map[int]int    // of an ISID
	ports   map[int][]int  // of a VID
}

// opened is the book of one that may be; false: it may not be.
func opened(p api.Prov) (book, bool) {
	b := book{own: p.Own, kinds: p.Kinds, isids: map[[2]int]int{}, carrier: map[int]int{}, ports: map[int][]int{}}
	if p.Own[0]&1 == 1 || p.Own == (api.MAC{}) || len(p.Kinds) == 0 || len(p.Kinds) > 8 {
		return b, false
	}
	for _, k := range p.Kinds {
		if k < 1 || k > 2 {
			return b, false
		}
	}
	if max(len(p.Maps), len(p.Carries), len(p.Members)) > 64 {
		return b, false
	}
	for _, m := range p.Members {
		b.ports[m.VID] = m.Ports
		if m.VID < 1 || m.VID > 4094 || !b.allOf(2, m.Ports) || !sorted(m.Ports) {
			return b, false
		}
	}
	for _, c := range p.Carries {
		b.carrier[c.ISID] = c.VID
		if _, ok := b.ports[c.VID]; !ok || c.ISID < 1 || c.ISID > 0xffffff {
			return b, false
		}
	}
	pairs := map[[2]int]int{}
	for _, m := range p.Maps {
		b.isids[[2]int{m.Port, m.VID}] = m.ISID
		pairs[[2]int{m.Port, m.ISID}]++
		if _, ok := b.carrier[m.ISID]; !ok || m.VID < 1 || m.VID > 4094 || !b.allOf(1, []int{m.Port}) {
			return b, false
		}
	}
	if len(b.isids) != len(p.Maps) || len(pairs) != len(p.Maps) || len(b.carrier) != len(p.Carries) || len(b.ports) != len(p.Members) {
		return b, false
	}
	return b, alike(p, b.told())
}

func sorted(ports []int) bool {
	s := slices.Clone(ports)
	slices.Sort(s)
	return slices.Equal(slices.Compact(s), ports)
}

func (b book) has(port int) bool { return port >= 0 && port < len(b.kinds) }

func (b book) allOf(kind api.PortKind, ports []int) bool {
	for _, port := range ports {
		if !b.has(port) || b.kinds[port] != kind {
			return false
		}
	}
	return true
}

// told is what a book has, laid out in order.
func (b book) told() api.Prov {
	p := api.Prov{Own: b.own, Kinds: b.kinds}
	for at, isid := range b.isids {
		p.Maps = append(p.Maps, api.Map{Port: at[0], VID: at[1], ISID: isid})
	}
	for isid, vid := range b.carrier {
		p.Carries = append(p.Carries, api.Carry{ISID: isid, VID: vid})
	}
	for vid, ports := range b.ports {
		p.Members = append(p.Members, api.Member{VID: vid, Ports: ports})
	}
	slices.SortFunc(p.Maps, func(x, y api.Map) int { return cmp.Compare(x.Port*10000+x.VID, y.Port*10000+y.VID) })
	slices.SortFunc(p.Carries, func(x, y api.Carry) int { return x.ISID - y.ISID })
	slices.SortFunc(p.Members, func(x, y api.Member) int { return x.VID - y.VID })
	return p
}

// first is the error of the first one that is so.
func first(is ...any) api.Errno {
	for i := 0; i < len(is); i += 2 {
		if is[i+1].(bool) {
			return is[i].(api.Errno)
		}
	}
	return api.OK
}

// after is what the document says of a command.
func after(p api.Prov, c api.Command) (api.Prov, api.Errno) {
	b, ok := opened(p)
	if !ok {
		return p, api.ErrProv
	}
	e := api.ErrArg
	switch c.Kind {
	case api.AddMap, api.DelMap:
		e = b.mapped(c.Kind, c.Map)
	case api.AddCarry, api.DelCarry:
		e = b.carried(c.Kind, c.Carry)
	case api.SetMember, api.DelMember:
		e = b.membered(c.Kind, c.Member)
	}
	if e != api.OK {
		return p, e
	}
	return b.told(), api.OK
}

func (b book) mapped(kind api.CmdKind, m api.Map) api.Errno {
	at := [2]int{m.Port, m.VID}
	isid, vlan := b.isids[at]
	if kind == api.DelMap {
		delete(b.isids, at)
		return first(api.ErrMissing, !vlan || isid != m.ISID)
	}
	service := false
	for x, y := range b.isids {
		service = service || x[0] == m.Port && y == m.ISID
	}
	_, carried := b.carrier[m.ISID]
	many := len(b.isids) == 64
	b.isids[at] = m.ISID
	return first(
		api.ErrArg, m.VID < 1 || m.VID > 4094 || m.ISID < 1 || m.ISID > 0xffffff,
		api.ErrRange, !b.has(m.Port),
		api.ErrKind, !b.allOf(1, []int{m.Port}),
		api.ErrThere, vlan || service,
		api.ErrMissing, !carried,
		api.ErrMany, many)
}

func (b book) carried(kind api.CmdKind, c api.Carry) api.Errno {
	vid, there := b.carrier[c.ISID]
	if kind == api.DelCarry {
		used := false
		for _, isid := range b.isids {
			used = used || isid == c.ISID
		}
		delete(b.carrier, c.ISID)
		return first(api.ErrMissing, !there || vid != c.VID, api.ErrUse, used)
	}
	_, member := b.ports[c.VID]
	many := len(b.carrier) == 64
	b.carrier[c.ISID] = c.VID
	return first(
		api.ErrArg, c.VID < 1 || c.VID > 4094 || c.ISID < 1 || c.ISID > 0xffffff,
		api.ErrThere, there,
		api.ErrMissing, !member,
		api.ErrMany, many)
}

func (b book) membered(kind api.CmdKind, m api.Member) api.Errno {
	_, there := b.ports[m.VID]
	if kind == api.DelMember {
		used := false
		for _, vid := range b.carrier {
			used = used || vid == m.VID
		}
		delete(b.ports, m.VID)
		return first(api.ErrMissing, !there, api.ErrUse, used)
	}
	out := false
	for _, port := range m.Ports {
		out = out || !b.has(port)
	}
	many := len(b.ports) == 64 && !there
	b.ports[m.VID] = m.Ports
	return first(
		api.ErrArg, m.VID < 1 || m.VID > 4094 || !sorted(m.Ports),
		api.ErrRange, out,
		api.ErrKind, !b.allOf(2, m.Ports),
		api.ErrMany, many)
}

// chance makes what is provisioned, and commands, of few numbers, so that they meet.
type chance struct{ *rand.Rand }

func (r chance) kinds() []api.PortKind {
	kinds := make([]api.PortKind, 1+r.Intn(8))
	for i := range kinds {
		kinds[i] = api.PortKind(1 + r.Intn(2))
	}
	return kinds
}

// pick is one of a few numbers below n, or, seldom, a wrong one.
func (r chance) pick(n, highest int) int {
	if r.Intn(40) == 0 {
		return []int{0, -1, highest, highest + 1, highest + 2}[r.Intn(5)]
	}
	return 1 + r.Intn(n)
}

func (r chance) port() int { return r.pick(8, 7) - 1 }

func (r chance) ports(n int) []int {
	var ports []int
	for port := range n {
		if r.Intn(2) == 0 {
			ports = append(ports, port)
		}
	}
	if r.Intn(10) == 0 {
		ports = append(ports, r.Intn(n+2)-1)
	}
	return ports
}

// backbones are some of the ports that are the backbone's.
func (r chance) backbones(p api.Prov) []int {
	return slices.DeleteFunc(r.ports(len(p.Kinds)), func(port int) bool {
		return port < 0 || port >= len(p.Kinds) || p.Kinds[port] != api.Backbone
	})
}

// customer is a port that is a customer's, if the first that comes up does, or the second, or the third.
func (r chance) customer(p api.Prov) int {
	port := r.Intn(len(p.Kinds))
	for range 2 {
		if p.Kinds[port] != api.Customer {
			port = r.Intn(len(p.Kinds))
		}
	}
	return port
}

func (r chance) command(p api.Prov, n int) api.Command {
	c := api.Command{Kind: api.CmdKind(1 + r.Intn(6))}
	if r.Intn(2) == 0 { // what is added goes ahead of what is deleted, so that there are rows
		c.Kind = []api.CmdKind{api.AddMap, api.AddCarry, api.SetMember}[r.Intn(3)]
	}
	if r.Intn(60) == 0 {
		c.Kind = api.CmdKind(r.Intn(14) - 1)
	}
	c.Map = api.Map{Port: r.port(), VID: r.pick(n, 4094), ISID: r.pick(n, 0xffffff)}
	c.Carry = api.Carry{ISID: r.pick(n, 0xffffff), VID: r.pick(n, 4094)}
	c.Member = api.Member{VID: r.pick(n, 4094), Ports: r.backbones(p)}
	if r.Intn(8) == 0 {
		c.Member.Ports = r.ports(8)
	}
	if len(p.Carries) > 0 && r.Intn(3) > 0 {
		c.Map.ISID = p.Carries[r.Intn(len(p.Carries))].ISID
		c.Map.Port = r.customer(p)
	}
	if len(p.Members) > 0 && r.Intn(3) > 0 {
		c.Carry.VID = p.Members[r.Intn(len(p.Members))].VID
	}
	if adds := c.Kind%2 == 1; adds && r.Intn(5) > 0 {
		return c
	}
	if len(p.Maps) > 0 && r.Intn(2) == 0 {
		c.Map = p.Maps[r.Intn(len(p.Maps))]
		c.Map.ISID += r.Intn(4) / 3
	}
	if len(p.Carries) > 0 && r.Intn(2) == 0 {
		c.Carry = p.Carries[r.Intn(len(p.Carries))]
		c.Carry.VID += r.Intn(4) / 3
	}
	return c
}

// led are commands by chance, one behind the other, from a bridge without any row on; n is how many numbers meet, and told is asked of each.
func led(seed int64, bridges, commands int, told func(n int, p api.Prov, c api.Command, q api.Prov, e api.Errno)) {
	r := chance{rand.New(rand.NewSource(seed))}
	for i := range bridges {
		n := []int{3, 8, 30, 90}[i%4]
		p := api.Prov{Own: own, Kinds: r.kinds()}
		for range commands * n / 8 {
			c := r.command(p, n)
			q, e := Do(p, c)
			told(n, p, c, q, e)
			if e == api.OK {
				p = q
			}
		}
	}
}

// P18.1, P18.2, P18.5: commands by chance, against the chapter's words said again; all errors come about, and MaxMaps of each row.
func TestDoTold(t *testing.T) {
	seen := map[[2]int]int{}
	most := [3]int{}
	led(18, 60, 160, func(_ int, p api.Prov, c api.Command, q api.Prov, e api.Errno) {
		want, wanted := after(p, c)
		if e != wanted || !alike(q, want) {
			t.Fatalf("%+v of %+v: %d, %+v; not %d, %+v", c, p, e, q, wanted, want)
		}
		if e == api.OK && Check(q) != api.OK || e != api.OK && !Same(p, q) {
			t.Fatal("it does not stay", c, p, q)
		}
		seen[[2]int{int(c.Kind), int(e)}]++
		most = [3]int{max(most[0], len(q.Maps)), max(most[1], len(q.Carries)), max(most[2], len(q.Members))}
	})
	for kind, errors := range map[api.CmdKind][]api.Errno{
		api.AddMap:    {api.OK, api.ErrArg, api.ErrRange, api.ErrKind, api.ErrThere, api.ErrMissing, api.ErrMany},
		api.DelMap:    {api.OK, api.ErrMissing},
		api.AddCarry:  {api.OK, api.ErrArg, api.ErrThere, api.ErrMissing, api.ErrMany},
		api.DelCarry:  {api.OK, api.ErrMissing, api.ErrUse},
		api.SetMember: {api.OK, api.ErrArg, api.ErrRange, api.ErrKind, api.ErrMany},
		api.DelMember: {api.OK, api.ErrMissing, api.ErrUse},
		api.FlushAll:  {api.ErrArg},
		api.NoCmd:     {api.ErrArg},
	} {
		for _, e := range errors {
			if seen[[2]int{int(kind), int(e)}] == 0 {
				t.Error("never came about", kind, e)
			}
		}
	}
	if most != [3]int{64, 64, 64} {
		t.Error("never full", most)
	}
}

// turned is one whose rows were turned about, or are otherwise, at some places.
func (r chance) turned(p api.Prov) api.Prov {
	p = deep(p)
	for range 1 + r.Intn(2) {
		switch r.Intn(12) {
		case 0:
			p.Own[r.Intn(6)] = byte(r.Intn(4))
		case 1:
			p.Kinds[r.Intn(len(p.Kinds))] = api.PortKind(r.Intn(4))
		case 2:
			p.Kinds = append(p.Kinds, api.Customer)
		case 3, 4, 5:
			if len(p.Maps) > 0 {
				m := &p.Maps[r.Intn(len(p.Maps))]
				*[]*int{&m.Port, &m.VID, &m.ISID}[r.Intn(3)] += 1 - 2*r.Intn(2)
			}
		case 6, 7:
			if len(p.Carries) > 0 {
				c := &p.Carries[r.Intn(len(p.Carries))]
				*[]*int{&c.ISID, &c.VID}[r.Intn(2)] += 1 - 2*r.Intn(2)
			}
		case 8, 9:
			if len(p.Members) > 0 {
				p.Members[r.Intn(len(p.Members))].VID += 1 - 2*r.Intn(2)
			}
		case 10:
			if len(p.Members) > 0 {
				p.Members[r.Intn(len(p.Members))].Ports = r.ports(len(p.Kinds))
			}
		case 11:
			if i := len(p.Maps); i > 0 {
				x, y := r.Intn(i), r.Intn(i)
				p.Maps[x], p.Maps[y] = p.Maps[y], p.Maps[x]
			}
		}
	}
	return p
}

// P18.1, P18.4: what may be, turned at some place, against the chapter's words said again; both answers come about, often. Same is whether all rows are alike.
func TestCheckTold(t *testing.T) {
	r := chance{rand.New(rand.NewSource(181))}
	seen, same := map[api.Errno]int{}, [2]int{}
	led(182, 80, 60, func(_ int, p api.Prov, _ api.Command, q api.Prov, _ api.Errno) {
		x := r.turned(p)
		want := api.OK
		if _, ok := opened(x); !ok {
			want = api.ErrProv
		}
		if e := Check(x); e != want {
			t.Fatalf("%+v: %d", x, e)
		}
		seen[want]++
		for _, y := range []api.Prov{p, q} {
			if got := Same(x, y); got != alike(x, y) || got != Same(y, x) {
				t.Fatalf("%+v, %+v: %v", x, y, got)
			} else if got {
				same[0]++
			} else {
				same[1]++
			}
		}
	})
	if seen[api.OK] < 1000 || seen[api.ErrProv] < 1000 || min(same[0], same[1]) < 500 {
		t.Error(seen, same)
	}
}

// P18.3: what is asked of what was made by chance (turned, too, so that it may not be), against a search of all rows from behind.
func TestAskedTold(t *testing.T) {
	r := chance{rand.New(rand.NewSource(183))}
	led(184, 80, 60, func(n int, p api.Prov, _ api.Command, _ api.Prov, _ api.Errno) {
		if r.Intn(2) == 0 {
			p = r.turned(p)
		}
		port, vid, isid := r.port(), r.pick(n, 4094), r.pick(n, 0xffffff)
		var service, vlan, carrier, ports []int
		var hasPorts bool
		var attached, services []int
		for _, m := range slices.Backward(p.Maps) {
			if m.Port == port && m.VID == vid {
				service = []int{m.ISID}
			}
			if m.Port == port && m.ISID == isid {
				vlan = []int{m.VID}
			}
			if m.ISID == isid {
				attached = slices.Insert(attached, 0, m.Port)
			}
		}
		for _, c := range slices.Backward(p.Carries) {
			if c.ISID == isid {
				carrier = []int{c.VID}
			}
			if c.VID == vid {
				services = slices.Insert(services, 0, c.ISID)
			}
		}
		for _, m := range slices.Backward(p.Members) {
			if m.VID == vid {
				ports, hasPorts = m.Ports, true
			}
		}
		if !asked(service)(Service(p, port, vid)) || !asked(vlan)(VIDOf(p, port, isid)) || !asked(carrier)(Carrier(p, isid)) {
			t.Fatalf("%+v: %d, %d, %d", p, port, vid, isid)
		}
		if got, ok := Ports(p, vid); ok != hasPorts || !slices.Equal(got, ports) {
			t.Fatalf("%+v: %d: %v, %v", p, vid, got, ok)
		}
		if !slices.Equal(Attached(p, isid), attached) || !slices.Equal(Services(p, vid), services) {
			t.Fatalf("%+v: %d, %d", p, isid, vid)
		}
	})
}

// asked tells whether an answer is the one of want, or that there is none.
func asked(want []int) func(got int, ok bool) bool {
	return func(got int, ok bool) bool {
		if len(want) == 0 {
			return got == 0 && !ok
		}
		return got == want[0] && ok
	}
}

// P18.6: what is added, and then deleted, is as it was; what is deleted, and then added, likewise.
func TestUndone(t *testing.T) {
	undone := map[api.CmdKind]int{}
	other := map[api.CmdKind]api.CmdKind{
		api.AddMap: api.DelMap, api.AddCarry: api.DelCarry, api.SetMember: api.DelMember,
		api.DelMap: api.AddMap, api.DelCarry: api.AddCarry, api.DelMember: api.SetMember,
	}
	led(186, 80, 60, func(_ int, p api.Prov, c api.Command, q api.Prov, e api.Errno) {
		if e != api.OK {
			return
		}
		was, there := Ports(p, c.Member.VID)
		if c.Kind == api.SetMember && there {
			return
		}
		back := c
		back.Kind = other[c.Kind]
		if c.Kind == api.DelMember {
			back.Member.Ports = was
		}
		again, e := Do(q, back)
		if e != api.OK || !alike(again, p) || !Same(again, p) || alike(q, p) {
			t.Fatalf("%+v of %+v: %d, %+v", c, p, e, again)
		}
		undone[c.Kind]++
	})
	for kind := range other {
		if undone[kind] < 50 {
			t.Error(kind, undone[kind])
		}
	}
}

// P18.7: of a port and a VID there is one service, of a port and a service one VID, and each tells the other; what is attached is once.
func TestOne(t *testing.T) {
	rows := 0
	led(187, 40, 60, func(_ int, _ api.Prov, _ api.Command, p api.Prov, _ api.Errno) {
		for _, m := range p.Maps {
			isid, one := Service(p, m.Port, m.VID)
			vid, other := VIDOf(p, m.Port, m.ISID)
			if isid != m.ISID || vid != m.VID || !one || !other {
				t.Fatalf("%+v: %+v", p, m)
			}
			of := 0
			for _, x := range p.Maps {
				if x.Port == m.Port && (x.VID == m.VID || x.ISID == m.ISID) {
					of++
				}
			}
			if ports := Attached(p, m.ISID); of != 1 || !sorted(ports) {
				t.Fatalf("%+v: %+v, %v", p, m, ports)
			}
			rows++
		}
	})
	if rows < 10000 {
		t.Error(rows)
	}
}

// P18.8: what is handed in does not change, commands by chance; what is told stays when that is written over.
func TestOwnMemory(t *testing.T) {
	led(188, 40, 40, func(_ int, p api.Prov, c api.Command, q api.Prov, _ api.Errno) {
		was, want, ports := roomy(p), deep(q), slices.Clone(c.Member.Ports)
		told, _ := Do(was, c)
		if !alike(was, p) || !slices.Equal(c.Member.Ports, ports) || !alike(told, want) {
			t.Fatalf("%+v of %+v", c, p)
		}
		scratch(was)
		fill(c.Member.Ports)
		if !alike(told, want) || !alike(q, want) {
			t.Fatalf("%+v: %+v", c, told)
		}
	})
}
