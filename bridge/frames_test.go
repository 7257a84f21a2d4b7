package bridge

import (
	"bytes"
	"slices"
	"testing"

	"pontage/api"
	"pontage/pbb"
)

// customer lets a frame of a customer come in.
func customer(t *testing.T, b *Bridge, port int, x []byte) func() {
	return func() {
		t.Helper()
		if e := b.Customer(port, x); e != api.OK {
			t.Error(e)
		}
	}
}

// backbone lets a frame of the backbone come in.
func backbone(t *testing.T, b *Bridge, port int, x []byte) func() {
	return func() {
		t.Helper()
		if e := b.Backbone(port, x); e != api.OK {
			t.Error(e)
		}
	}
}

// uncounted is what a bridge tells but its counters.
func uncounted(b *Bridge) string {
	x := *b
	x.outlets.counts = nil
	return told(&x)
}

// P23.2: a reason of Read or Classify is counted, and nothing else is done.
func TestCustomerRefused(t *testing.T) {
	b := ready(t, conf("ccb"))
	ordered(t, b, carry(5001, 10), attach(1, 150, 5001))
	untagged := slices.Delete(simple(near(1), near(2), 100), 12, 16)
	fromGroup := simple(near(1), near(2), 100)
	fromGroup[6] = 1
	for what, x := range map[string]struct {
		port int
		b    []byte
		why  api.Why
	}{
		"nothing":                        {0, nil, api.BadFrame},
		"17 bytes":                       {0, simple(near(1), near(2), 100)[:17], api.BadFrame},
		"13 bytes":                       {0, untagged[:13], api.BadFrame},
		"from a group":                   {0, fromGroup, api.BadFrame},
		"to no station":                  {0, append(make([]byte, 6), simple(near(1), near(2), 100)[6:]...), api.BadFrame},
		"VLAN 0":                         {0, slices.Replace(simple(near(1), near(2), 100), 14, 16, 0, 0), api.BadFrame},
		"VLAN 4095":                      {0, slices.Replace(simple(near(1), near(2), 100), 14, 16, 15, 255), api.BadFrame},
		"a byte too long":                {0, append(simple(near(1), near(2), 100), make([]byte, 1500)...), api.BigFrame},
		"too long, and bad":              {0, append(fromGroup, make([]byte, 1500)...), api.BigFrame},
		"far too long":                   {1, make([]byte, 2000), api.BigFrame},
		"not tagged":                     {0, untagged, api.NoService},
		"another VLAN":                   {0, simple(near(1), near(2), 99), api.NoService},
		"another port's VLAN":            {0, simple(near(1), near(2), 101), api.NoService},
		"another port's other VLAN":      {0, simple(near(1), near(2), 150), api.NoService},
		"the backbone's VLAN":            {1, simple(near(1), near(2), 10), api.NoService},
		"a VLAN of the service's number": {1, simple(near(1), near(2), 904), api.NoService},
	} {
		ahead := uncounted(b)
		counts(t, b, what, customer(t, b, x.port, x.b), x.why)
		if behind := uncounted(b); behind != ahead {
			t.Error(what, behind)
		}
	}
}

// P23.2: one that is not known goes to all others: to those of this bridge with their own VLANs, in the backbone to the service's group, on its VLAN.
func TestCustomerUnknown(t *testing.T) {
	b := ready(t, conf("cbccb"))
	ordered(t, b, carry(5001, 10), attach(0, 500, 5001), attach(3, 501, 5001), member(20, 1), carry(5002, 20), attach(2, 500, 5002))
	all3 := map[int][]byte{2: simple(near(9), near(1), 102), 3: simple(near(9), near(1), 103)}
	over := hiding(service, far(1), 10, 5000, near(9), near(1))
	all3[1], all3[4] = over, over
	for range 2 {
		counts(t, b, "unknown", customer(t, b, 0, simple(near(9), near(1), 100)), api.InCustomer, api.OutCustomer, api.OutCustomer, api.OutBackbone, api.OutBackbone)
		took(t, b, "unknown", all3)
	}
	// another service: other ports, another group
	over = hiding(api.MAC{1, 0x1e, 0x83, 0, 0x13, 0x89}, far(1), 10, 5001, near(9), near(1))
	counts(t, b, "5001", customer(t, b, 3, simple(near(9), near(1), 501)), api.InCustomer, api.OutCustomer, api.OutBackbone, api.OutBackbone)
	took(t, b, "5001", map[int][]byte{0: simple(near(9), near(1), 500), 1: over, 4: over})
	// another VLAN of the backbone, of which not all ports are members; nobody else of the service is here
	over = hiding(api.MAC{1, 0x1e, 0x83, 0, 0x13, 0x8a}, far(1), 20, 5002, near(9), near(1))
	counts(t, b, "5002", customer(t, b, 2, simple(near(9), near(1), 500)), api.InCustomer, api.OutBackbone)
	took(t, b, "5002", map[int][]byte{1: over})
	// to more than one: the same, though all of these be like addresses that are known
	for _, da := range []api.MAC{all, group, reserved, service} {
		over := hiding(service, far(1), 10, 5000, da, near(1))
		counts(t, b, "to many", customer(t, b, 2, simple(da, near(1), 102)), api.InCustomer, api.OutCustomer, api.OutCustomer, api.OutBackbone, api.OutBackbone)
		took(t, b, "to many", map[int][]byte{0: simple(da, near(1), 100), 3: simple(da, near(1), 103), 1: over, 4: over})
	}
}

// P23.2: who sends is learned: of the service, behind this bridge, at the clock; also where nobody gets the frame.
func TestCustomerLearned(t *testing.T) {
	b := ready(t, conf("ccb"))
	ordered(t, b, carry(5001, 10), attach(0, 500, 5001))
	b.Customer(0, simple(all, near(1), 100))
	ticks(t, b, 3)
	b.Customer(0, simple(all, near(1), 500))
	ticks(t, b, 1)
	b.Customer(1, simple(near(1), near(2), 101))
	want := []api.Known{{ISID: 5000, C: near(1), B: far(1), Seen: readyAt}, {ISID: 5000, C: near(2), B: far(1), Seen: readyAt + 4}, {ISID: 5001, C: near(1), B: far(1), Seen: readyAt + 3}}
	if l := b.Known(); !slices.Equal(l, want) {
		t.Error(l)
	}
	b.Customer(0, simple(near(2), near(1), 100))
	want[0].Seen = readyAt + 4
	if l := b.Known(); !slices.Equal(l, want) || len(b.Entries()) != 0 {
		t.Error(l, b.Entries())
	}
	c := made(t, conf("c"))
	ordered(t, c, member(10), carry(5000, 10), attach(0, 100, 5000))
	c.Customer(0, simple(all, near(5), 100))
	if l := c.Known(); !slices.Equal(l, []api.Known{{ISID: 5000, C: near(5), B: far(1)}}) {
		t.Error(l)
	}
}

// P23.2: known behind another bridge: to that one alone, and where the backbone's database knows it, by one port; not to the others of this bridge.
func TestCustomerKnownElsewhere(t *testing.T) {
	b := ready(t, conf("cbcbb"))
	b.Backbone(1, hiding(far(1), far(7), 10, 5000, near(1), near(9)))
	took(t, b, "learned", map[int][]byte{0: simple(near(1), near(9), 100), 2: simple(near(1), near(9), 102)})
	over := hiding(far(7), far(1), 10, 5000, near(9), near(1))
	counts(t, b, "known", customer(t, b, 0, simple(near(9), near(1), 100)), api.InCustomer, api.OutBackbone)
	took(t, b, "known", map[int][]byte{1: over})
	// where the backbone does not know the bridge any more: everywhere, but still to it
	ordered(t, b, member(20, 1, 3, 4))
	ticks(t, b, 1)
	if n := b.backbone.Flush(1); n != 1 {
		t.Error(n)
	}
	counts(t, b, "unknown bridge", customer(t, b, 0, simple(near(9), near(1), 100)), api.InCustomer, api.OutBackbone, api.OutBackbone, api.OutBackbone)
	took(t, b, "unknown bridge", map[int][]byte{1: over, 3: over, 4: over})
	// what is known on another VLAN is not known on this one
	ordered(t, b, static(20, far(7), 3))
	counts(t, b, "another VLAN", customer(t, b, 0, simple(near(9), near(1), 100)), api.InCustomer, api.OutBackbone, api.OutBackbone, api.OutBackbone)
	took(t, b, "another VLAN", map[int][]byte{1: over, 3: over, 4: over})
	ordered(t, b, static(10, far(7), 3))
	counts(t, b, "static", customer(t, b, 0, simple(near(9), near(1), 100)), api.InCustomer, api.OutBackbone)
	took(t, b, "static", map[int][]byte{3: over})
	// where it may not go to that port: nowhere
	ordered(t, b, member(10, 1, 4))
	counts(t, b, "no member", customer(t, b, 0, simple(near(9), near(1), 100)), api.InCustomer, api.Nobody)
	took(t, b, "no member", nil)
}

// P23.2: the address may be known of another service, which is nothing to this one.
func TestCustomerKnownOfAnother(t *testing.T) {
	b := ready(t, conf("ccb"))
	ordered(t, b, carry(5001, 10), attach(0, 500, 5001))
	b.Backbone(2, hiding(far(1), far(7), 10, 5001, near(1), near(9)))
	took(t, b, "learned", map[int][]byte{0: simple(near(1), near(9), 500)})
	counts(t, b, "of another", customer(t, b, 0, simple(near(9), near(1), 100)), api.InCustomer, api.OutCustomer, api.OutBackbone)
	took(t, b, "of another", map[int][]byte{1: simple(near(9), near(1), 101), 2: hiding(service, far(1), 10, 5000, near(9), near(1))})
}

// P23.2: known behind this very bridge: to its own others, and not into the backbone. Who sends to itself is so known at once.
func TestCustomerKnownHere(t *testing.T) {
	b := ready(t, conf("cccb"))
	b.Customer(1, simple(all, near(9), 101))
	took(t, b, "learned", map[int][]byte{0: simple(all, near(9), 100), 2: simple(all, near(9), 102), 3: hiding(service, far(1), 10, 5000, all, near(9))})
	counts(t, b, "here", customer(t, b, 0, simple(near(9), near(1), 100)), api.InCustomer, api.OutCustomer, api.OutCustomer)
	took(t, b, "here", map[int][]byte{1: simple(near(9), near(1), 101), 2: simple(near(9), near(1), 102)})
	counts(t, b, "to itself", customer(t, b, 0, simple(near(5), near(5), 100)), api.InCustomer, api.OutCustomer, api.OutCustomer)
	took(t, b, "to itself", map[int][]byte{1: simple(near(5), near(5), 101), 2: simple(near(5), near(5), 102)})
	// with nobody else here: nobody gets it
	c := ready(t, conf("cb"))
	counts(t, c, "alone", customer(t, c, 0, simple(near(5), near(5), 100)), api.InCustomer, api.Nobody)
	took(t, c, "alone", nil)
}

// P23.2: who sends is learned ahead of asking who is known: where that takes the last room, the other one is known no more.
func TestCustomerLearnedFirst(t *testing.T) {
	c := conf("ccb")
	c.Entries = 1
	b := ready(t, c)
	b.Customer(1, simple(all, near(9), 101))
	took(t, b, "learned", map[int][]byte{0: simple(all, near(9), 100), 2: hiding(service, far(1), 10, 5000, all, near(9))})
	counts(t, b, "forgotten", customer(t, b, 0, simple(near(9), near(1), 100)), api.InCustomer, api.OutCustomer, api.OutBackbone)
	took(t, b, "forgotten", map[int][]byte{1: simple(near(9), near(1), 101), 2: hiding(service, far(1), 10, 5000, near(9), near(1))})
}

// P23.2, P23.7: what can't be hidden (a tag behind the tag) goes to this bridge's own others, and its reason is counted: no Nobody besides.
func TestCustomerNotHidden(t *testing.T) {
	b := ready(t, conf("ccb"))
	twice := func(vid int) []byte { return framed(near(9), near(1), vid, 0x88, 0xa8, 0, 7, 8, 0) }
	counts(t, b, "not hidden", customer(t, b, 0, twice(100)), api.InCustomer, api.OutCustomer, api.BadFrame)
	took(t, b, "not hidden", map[int][]byte{1: twice(101)})
	b.Backbone(2, hiding(far(1), far(7), 10, 5000, near(1), near(9)))
	took(t, b, "learned", map[int][]byte{0: simple(near(1), near(9), 100), 1: simple(near(1), near(9), 101)})
	counts(t, b, "known elsewhere", customer(t, b, 0, twice(100)), api.InCustomer, api.BadFrame)
	took(t, b, "known elsewhere", nil)
	b.Customer(1, simple(all, near(9), 101))
	took(t, b, "moved", map[int][]byte{0: simple(all, near(9), 100), 2: hiding(service, far(1), 10, 5000, all, near(9))})
	counts(t, b, "known here", customer(t, b, 0, twice(100)), api.InCustomer, api.OutCustomer)
	took(t, b, "known here", map[int][]byte{1: twice(101)})
	c := ready(t, conf("cb"))
	counts(t, c, "alone", customer(t, c, 0, twice(100)), api.InCustomer, api.BadFrame)
	took(t, c, "alone", nil)
}

// P23.2: where no port forwards, or none is a member, nothing goes into the backbone; if nobody else is here either: Nobody.
func TestCustomerNobody(t *testing.T) {
	b := ready(t, conf("cbb"))
	b.Up(1, false)
	counts(t, b, "one is down", customer(t, b, 0, simple(all, near(1), 100)), api.InCustomer, api.OutBackbone)
	took(t, b, "one is down", map[int][]byte{2: hiding(service, far(1), 10, 5000, all, near(1))})
	b.Up(2, false)
	counts(t, b, "both are", customer(t, b, 0, simple(all, near(1), 100)), api.InCustomer, api.Nobody)
	raise(t, b)
	for !b.Tree().P[1].Learning || b.Tree().P[1].Forwarding {
		counts(t, b, "not yet", customer(t, b, 0, simple(all, near(1), 100)), api.InCustomer, api.Nobody)
		ticks(t, b, 1)
	}
	counts(t, b, "it learns", customer(t, b, 0, simple(all, near(1), 100)), api.InCustomer, api.Nobody)
	ticks(t, b, readyAt)
	ordered(t, b, member(10))
	counts(t, b, "no members", customer(t, b, 0, simple(all, near(1), 100)), api.InCustomer, api.Nobody)
	took(t, b, "no members", nil)
}

// P23.2, P23.3: copies whose port's queue is full are counted as such, each one; the others are put all the same.
func TestFull(t *testing.T) {
	c := conf("ccbb")
	c.Queue = 1
	b := ready(t, c)
	b.Customer(0, simple(all, near(1), 100))
	b.Next(2)
	counts(t, b, "full", customer(t, b, 0, simple(all, near(1), 100)), api.InCustomer, api.QueueFull, api.OutBackbone, api.QueueFull)
	b.Next(1)
	counts(t, b, "full", customer(t, b, 0, simple(all, near(1), 100)), api.InCustomer, api.OutCustomer, api.QueueFull, api.QueueFull)
	b.Next(3)
	counts(t, b, "full", backbone(t, b, 2, hiding(all, far(7), 10, 5000, near(1), near(2))), api.InBackbone, api.OutBackbone, api.OutCustomer, api.QueueFull)
	took(t, b, "full", map[int][]byte{0: simple(near(1), near(2), 100), 1: simple(all, near(1), 101), 2: hiding(service, far(1), 10, 5000, all, near(1)), 3: hiding(all, far(7), 10, 5000, near(1), near(2))})
}

// P23.3: PortDown, then BigFrame and BadFrame: each alone is counted; nothing is learned, none waits.
func TestBackboneRefused(t *testing.T) {
	b := ready(t, conf("cbb"))
	good := hiding(far(1), far(7), 10, 5000, near(1), near(2))
	big := append(slices.Clone(good), make([]byte, 1500)...)
	fromGroup := slices.Clone(good)
	fromGroup[6] = 1
	for what, x := range map[string]struct {
		b   []byte
		why api.Why
	}{
		"nothing":           {nil, api.BadFrame},
		"35 bytes":          {good[:35], api.BadFrame},
		"a customer's":      {simple(near(1), near(2), 100), api.BadFrame},
		"from a group":      {fromGroup, api.BadFrame},
		"VLAN 0":            {slices.Replace(slices.Clone(good), 14, 16, 0, 0), api.BadFrame},
		"service 0":         {slices.Replace(slices.Clone(good), 19, 22, 0, 0, 0), api.BadFrame},
		"a byte too long":   {big, api.BigFrame},
		"too long, and bad": {append(fromGroup, make([]byte, 1500)...), api.BigFrame},
		"not a member's":    {hiding(far(1), far(7), 11, 5000, near(1), near(2)), api.NoMember},
		"its own":           {hiding(far(7), far(1), 10, 5000, near(1), near(2)), api.OwnFrame},
		"its own, to many":  {hiding(service, far(1), 10, 5000, near(1), near(2)), api.OwnFrame},
	} {
		ahead := uncounted(b)
		counts(t, b, what, backbone(t, b, 1, x.b), x.why)
		if behind := uncounted(b); behind != ahead {
			t.Error(what, behind)
		}
	}
	longest := append(slices.Clone(good), make([]byte, 1499)...)
	counts(t, b, "just not too long", backbone(t, b, 1, longest), api.InBackbone, api.OutCustomer)
	b.Next(0)
	b.Up(1, false)
	for _, x := range [][]byte{nil, good, big, longest, fromGroup, hiding(far(7), far(1), 10, 5000, near(1), near(2))} {
		ahead := uncounted(b)
		counts(t, b, "down", backbone(t, b, 1, x), api.PortDown)
		if behind := uncounted(b); behind != ahead {
			t.Error(behind)
		}
	}
	counts(t, b, "the other is up", backbone(t, b, 2, good), api.InBackbone, api.OutCustomer)
}

// P23.3: who sends is learned on B's VLAN, behind the port, at the clock: also where the frame does not come in, but only of members, of others than the bridge itself, and where the port learns.
func TestBackboneLearned(t *testing.T) {
	b := ready(t, conf("cbb"))
	ordered(t, b, member(20, 2))
	see := func(what string, want ...api.Entry) {
		t.Helper()
		if l := b.Entries(); !slices.Equal(l, want) {
			t.Error(what, l)
		}
	}
	b.Backbone(1, hiding(far(1), far(7), 10, 5000, near(1), near(2)))
	see("taken", api.Entry{VID: 10, M: far(7), Port: 1, Seen: readyAt})
	ticks(t, b, 2)
	counts(t, b, "away", backbone(t, b, 2, hiding(reserved, far(8), 10, 5000, near(1), near(3))), api.Away)
	see("away", api.Entry{VID: 10, M: far(7), Port: 1, Seen: readyAt}, api.Entry{VID: 10, M: far(8), Port: 2, Seen: readyAt + 2})
	counts(t, b, "no member", backbone(t, b, 1, hiding(far(1), far(9), 20, 5000, near(1), near(2))), api.NoMember)
	counts(t, b, "own", backbone(t, b, 2, hiding(far(7), far(1), 20, 5000, near(1), near(2))), api.OwnFrame)
	b.Backbone(2, hiding(far(1), far(7), 20, 5000, near(1), near(4)))
	see("another VLAN", api.Entry{VID: 10, M: far(7), Port: 1, Seen: readyAt}, api.Entry{VID: 10, M: far(8), Port: 2, Seen: readyAt + 2}, api.Entry{VID: 20, M: far(7), Port: 2, Seen: readyAt + 2})
	b.Backbone(2, hiding(far(1), far(7), 10, 5000, near(1), near(2)))
	see("moved", api.Entry{VID: 10, M: far(7), Port: 2, Seen: readyAt + 2}, api.Entry{VID: 10, M: far(8), Port: 2, Seen: readyAt + 2}, api.Entry{VID: 20, M: far(7), Port: 2, Seen: readyAt + 2})
	if l := b.Known(); !slices.Equal(l, []api.Known{{ISID: 5000, C: near(2), B: far(7), Seen: readyAt + 2}}) {
		t.Error("known", l)
	}
}

// P23.3: a port that learns, and does not forward yet: Blocked is counted, and yet who sends is learned; one that does neither learns nothing.
func TestBackboneBlocked(t *testing.T) {
	b := ready(t, conf("cbb"))
	b.Up(1, false)
	b.Up(1, true)
	frame := hiding(all, far(7), 10, 5000, near(1), near(2))
	seen := 0
	for !b.Tree().P[1].Forwarding {
		learns := b.Tree().P[1].Learning
		counts(t, b, "blocked", backbone(t, b, 1, frame), api.Blocked)
		if l := b.Entries(); (len(l) == 1) != learns || len(b.Known()) != 0 {
			t.Error(l, b.Known())
		}
		if learns {
			seen++
		}
		ticks(t, b, 1)
	}
	if seen == 0 {
		t.Error("never but learns")
	}
	took(t, b, "blocked", nil)
	counts(t, b, "forwards", backbone(t, b, 1, frame), api.InBackbone, api.OutBackbone, api.OutCustomer)
	took(t, b, "forwards", map[int][]byte{2: frame, 0: simple(near(1), near(2), 100)})
}

// P23.3: copies: to members that forward, but from where it came; what is to the bridge itself, to its customers of the service.
func TestBackboneCopies(t *testing.T) {
	b := ready(t, conf("cbcbb"))
	ordered(t, b, carry(5001, 10), attach(0, 500, 5001), member(20, 1, 3), carry(5002, 20), attach(2, 502, 5002))
	b.Backbone(3, hiding(far(1), far(8), 10, 5000, near(1), near(8))) // learned: far(8) is behind 3
	took(t, b, "learned", map[int][]byte{0: simple(near(1), near(8), 100), 2: simple(near(1), near(8), 102)})
	in, toC, toB := api.InBackbone, api.OutCustomer, api.OutBackbone
	for what, x := range map[string]struct {
		b    []byte
		rise []api.Why
		want map[int][]byte
	}{
		"to it":             {hiding(far(1), far(7), 10, 5000, near(1), near(2)), []api.Why{in, toC, toC}, map[int][]byte{0: simple(near(1), near(2), 100), 2: simple(near(1), near(2), 102)}},
		"to it, of another": {hiding(far(1), far(7), 10, 5001, near(1), near(2)), []api.Why{in, toC}, map[int][]byte{0: simple(near(1), near(2), 500)}},
		"to its group":      {hiding(service, far(7), 10, 5000, all, near(2)), []api.Why{in, toC, toC, toB, toB}, map[int][]byte{0: simple(all, near(2), 100), 2: simple(all, near(2), 102), 3: hiding(service, far(7), 10, 5000, all, near(2)), 4: hiding(service, far(7), 10, 5000, all, near(2))}},
		"on another VLAN":   {hiding(all, far(7), 20, 5002, group, near(2)), []api.Why{in, toC, toB}, map[int][]byte{2: simple(group, near(2), 502), 3: hiding(all, far(7), 20, 5002, group, near(2))}},
		"through, known":    {hiding(far(8), far(7), 10, 5000, near(1), near(2)), []api.Why{in, toB}, map[int][]byte{3: hiding(far(8), far(7), 10, 5000, near(1), near(2))}},
		"through, unknown":  {hiding(far(9), far(7), 10, 5000, near(1), near(2)), []api.Why{in, toB, toB}, map[int][]byte{3: hiding(far(9), far(7), 10, 5000, near(1), near(2)), 4: hiding(far(9), far(7), 10, 5000, near(1), near(2))}},
		"known elsewhere":   {hiding(far(8), far(7), 20, 5000, near(1), near(2)), []api.Why{in, toB}, map[int][]byte{3: hiding(far(8), far(7), 20, 5000, near(1), near(2))}},
		"of no service":     {hiding(all, far(7), 10, 7, near(1), near(2)), []api.Why{in, toB, toB}, map[int][]byte{3: hiding(all, far(7), 10, 7, near(1), near(2)), 4: hiding(all, far(7), 10, 7, near(1), near(2))}},
		"of another VLAN's": {hiding(group, far(7), 10, 5002, near(1), near(2)), []api.Why{in, toB, toB}, map[int][]byte{3: hiding(group, far(7), 10, 5002, near(1), near(2)), 4: hiding(group, far(7), 10, 5002, near(1), near(2))}},
	} {
		counts(t, b, what, backbone(t, b, 1, x.b), x.rise...)
		took(t, b, what, x.want)
	}
	b.Up(4, false)
	counts(t, b, "one is down", backbone(t, b, 1, hiding(all, far(7), 10, 5000, all, near(2))), in, toC, toC, toB)
	took(t, b, "one is down", map[int][]byte{0: simple(all, near(2), 100), 2: simple(all, near(2), 102), 3: hiding(all, far(7), 10, 5000, all, near(2))})
}

// P23.3: who sends a frame that is to the bridge itself is known of its service, behind who sent the backbone frame; no other one is.
func TestBackboneKnown(t *testing.T) {
	b := ready(t, conf("cbb"))
	ordered(t, b, carry(5001, 10), member(20, 1), carry(5002, 20))
	ticks(t, b, 3)
	b.Backbone(1, hiding(far(8), far(7), 10, 5000, near(1), near(2))) // through
	b.Backbone(1, hiding(far(1), far(7), 10, 5002, near(1), near(3))) // of a VLAN that does not carry it
	b.Backbone(1, hiding(far(1), far(7), 10, 7, near(1), near(4)))    // of no service
	if l := b.Known(); len(l) != 0 {
		t.Error(l)
	}
	b.Backbone(1, hiding(far(1), far(7), 10, 5000, near(1), near(5)))
	b.Backbone(2, hiding(all, far(8), 10, 5000, all, near(6)))
	b.Backbone(2, hiding(service, far(9), 10, 5001, all, near(5))) // of a service of which nobody is here
	want := []api.Known{{ISID: 5000, C: near(5), B: far(7), Seen: readyAt + 3}, {ISID: 5000, C: near(6), B: far(8), Seen: readyAt + 3}, {ISID: 5001, C: near(5), B: far(9), Seen: readyAt + 3}}
	if l := b.Known(); !slices.Equal(l, want) {
		t.Error(l)
	}
	ticks(t, b, 1)
	b.Backbone(2, hiding(far(1), far(8), 10, 5000, near(1), near(5)))
	want[0].B, want[0].Seen = far(8), readyAt+4
	if l := b.Known(); !slices.Equal(l, want) {
		t.Error(l)
	}
}

// P23.3: where there are no copies one reason is counted: Accept's, else Decap's, else Nobody; where there are, none.
func TestBackboneNobody(t *testing.T) {
	b := ready(t, conf("cbb"))
	ordered(t, b, carry(5001, 10), member(20, 1), carry(5002, 20), static(10, far(8), 1), static(10, far(9), 2))
	for what, x := range map[string]struct {
		b   []byte
		why api.Why
	}{
		"of no service":            {hiding(far(1), far(7), 10, 7, near(1), near(2)), api.NoService},
		"of another VLAN's":        {hiding(far(1), far(7), 10, 5002, near(1), near(2)), api.NoService},
		"nobody is attached":       {hiding(far(1), far(7), 10, 5001, near(1), near(2)), api.NoService},
		"to all, of no service":    {hiding(all, far(7), 20, 7, near(1), near(2)), api.NoService},
		"to all, nobody here":      {hiding(all, far(7), 20, 5002, near(1), near(2)), api.NoService},
		"from where it is to go":   {hiding(far(8), far(7), 10, 5000, near(1), near(2)), api.Nobody},
		"to who sends":             {hiding(far(7), far(7), 10, 5000, near(1), near(2)), api.Nobody},
		"no other member":          {hiding(far(6), far(7), 20, 5000, near(1), near(2)), api.Nobody},
		"through, of no service":   {hiding(far(8), far(7), 10, 7, near(1), near(2)), api.Nobody},
		"through, nobody attached": {hiding(far(8), far(7), 10, 5001, near(1), near(2)), api.Nobody},
	} {
		counts(t, b, what, backbone(t, b, 1, x.b), api.InBackbone, x.why)
		took(t, b, what, nil)
	}
	b.Up(2, false)
	counts(t, b, "where it would go is down", backbone(t, b, 1, hiding(far(9), far(7), 10, 5000, near(1), near(2))), api.InBackbone, api.Nobody)
}

// P23.3: who sends is learned ahead of asking where it goes: a frame from its own receiver's address, or for whose sender room is made.
func TestBackboneLearnedFirst(t *testing.T) {
	c := conf("cbbb")
	c.Entries = 1
	b := ready(t, c)
	b.Backbone(2, hiding(far(1), far(8), 10, 5000, near(1), near(2)))
	b.Next(0)
	x := hiding(far(8), far(7), 10, 5000, near(1), near(2))
	counts(t, b, "forgotten", backbone(t, b, 1, x), api.InBackbone, api.OutBackbone, api.OutBackbone)
	took(t, b, "forgotten", map[int][]byte{2: x, 3: x})
	ordered(t, b, static(10, far(9), 2))
	counts(t, b, "no room", backbone(t, b, 1, x), api.InBackbone, api.OutBackbone, api.OutBackbone)
	took(t, b, "no room", map[int][]byte{2: x, 3: x})
	if l := b.Entries(); !slices.Equal(l, []api.Entry{{VID: 10, M: far(9), Port: 2, Static: true}}) {
		t.Error(l)
	}
	counts(t, b, "static elsewhere", backbone(t, b, 1, hiding(far(9), far(9), 10, 5000, near(1), near(2))), api.InBackbone, api.OutBackbone)
}

// Example 1 of the chapter: a new bridge: Customer(0, nothing): BadFrame is 1.
func TestExample(t *testing.T) {
	b := made(t, conf("cb"))
	if e := b.Customer(0, nil); e != api.OK || b.Counts()[api.BadFrame] != 1 {
		t.Error(e, b.Counts())
	}
}

// P23.6: Next is what waits longest at that port, which waits no more; Waiting how many do.
func TestNext(t *testing.T) {
	b := ready(t, conf("ccb"))
	for n := byte(1); n <= 3; n++ {
		b.Customer(0, simple(all, near(n), 100))
	}
	for n := byte(1); n <= 3; n++ {
		if b.Waiting(1) != 4-int(n) || b.Waiting(2) != 3 || b.Waiting(0) != 0 {
			t.Error(n, b.Waiting(1), b.Waiting(2))
		}
		if x, ok := b.Next(1); !ok || !bytes.Equal(x, simple(all, near(n), 101)) {
			t.Errorf("%d: % x %v", n, x, ok)
		}
	}
	if x, ok := b.Next(1); ok || x != nil || b.Waiting(1) != 0 || b.Waiting(2) != 3 {
		t.Error(x, ok)
	}
}

// What comes in may be written over, and what is told, too: the bridge goes on as it was.
func TestOwn(t *testing.T) {
	c := conf("ccb")
	b := ready(t, c)
	c.Kinds[0], c.Rstp.Costs[2] = api.Backbone, 7
	m := member(30, 2)
	ordered(t, b, m)
	m.Member.Ports[0] = 1
	x := simple(all, near(1), 100)
	same := slices.Clone(x)
	b.Customer(0, x)
	y := hiding(all, far(7), 10, 5000, all, near(2))
	if !bytes.Equal(x, same) {
		t.Errorf("% x", x)
	}
	b.Backbone(2, y)
	if f, e := pbb.Decode(y); e != api.OK || f.SA != far(7) {
		t.Error(f, e)
	}
	clear(x)
	clear(y)
	ahead := told(b)
	p, tree := b.Prov(), b.Tree()
	clear(p.Kinds)
	clear(p.Maps)
	clear(p.Carries)
	clear(p.Members[0].Ports)
	clear(p.Members)
	clear(tree.P)
	clear(b.Counts())
	clear(b.Entries())
	clear(b.Known())
	if behind := told(b); behind != ahead {
		t.Error(behind)
	}
	if x, _ := b.Next(1); !bytes.Equal(x, simple(all, near(1), 101)) {
		t.Errorf("% x", x)
	}
	took(t, b, "own", map[int][]byte{0: simple(all, near(2), 100), 1: simple(all, near(2), 101), 2: hiding(service, far(1), 10, 5000, all, near(1))})
}
