package fdb

import (
	"bytes"
	"cmp"
	"math"
	"math/rand"
	"slices"
	"testing"

	"pontage/api"
)

func station(n byte) api.MAC { return api.MAC{2, 0, 0, 0, 0, n} }

func learned(vid int, m api.MAC, port, seen int) api.Entry {
	return api.Entry{VID: vid, M: m, Port: port, Seen: seen}
}

func static(vid int, m api.MAC, port int) api.Entry {
	return api.Entry{VID: vid, M: m, Port: port, Static: true}
}

// add learns an entry, or says it.
func add(d *DB, x api.Entry) api.Errno {
	if x.Static {
		return d.Static(x.VID, x.M, x.Port)
	}
	return d.Learn(x.VID, x.M, x.Port, x.Seen)
}

func begin(t *testing.T, ports, room, age int) *DB {
	t.Helper()
	d, e := New(ports, room, age)
	if e != api.OK || d == nil {
		t.Fatalf("New(%d, %d, %d): %v, %d", ports, room, age, d, e)
	}
	return d
}

// holds is a database of these entries.
func holds(t *testing.T, ports, room, age int, list ...api.Entry) *DB {
	t.Helper()
	d := begin(t, ports, room, age)
	for _, x := range list {
		if e := add(d, x); e != api.OK {
			t.Fatalf("%+v: %d", x, e)
		}
	}
	return d
}

func expect(t *testing.T, d *DB, want ...api.Entry) {
	t.Helper()
	if got := d.All(); !slices.Equal(got, want) {
		t.Errorf("there are %+v, not %+v", got, want)
	}
	if d.Len() != len(want) {
		t.Errorf("Len: %d, not %d", d.Len(), len(want))
	}
	for _, x := range want {
		if port, found := d.Find(x.VID, x.M); port != x.Port || !found {
			t.Errorf("%+v: found at %d, %v", x, port, found)
		}
	}
}

// P7.1: all that is at an edge, with all others.
func TestNew(t *testing.T) {
	const low, high = math.MinInt, math.MaxInt
	good := map[string][]int{"ports": {1, 2, 7, 8}, "room": {1, 2, 255, 256}, "age": {1, 2, 1<<20 - 1, 1 << 20}}
	wrong := []int{low, -1, 0, high, 1<<32 + 1}
	for _, ports := range slices.Concat(good["ports"], wrong, []int{9, 256}) {
		for _, room := range slices.Concat(good["room"], wrong, []int{257, 65537}) {
			for _, age := range slices.Concat(good["age"], wrong, []int{1<<20 + 1}) {
				ok := slices.Contains(good["ports"], ports) && slices.Contains(good["room"], room) && slices.Contains(good["age"], age)
				d, e := New(ports, room, age)
				if ok && (e != api.OK || d == nil || d.Len() != 0 || len(d.All()) != 0) {
					t.Errorf("New(%d, %d, %d): %v, %d", ports, room, age, d, e)
				}
				if !ok && (e != api.ErrFDB || d != nil) {
					t.Errorf("New(%d, %d, %d): %v, %d", ports, room, age, d, e)
				}
			}
		}
	}
}

// P7.1 to P7.4: a database that nobody made.
func TestNotMade(t *testing.T) {
	for name, d := range map[string]*DB{"nil": nil, "by hand": {}, "new": new(DB)} {
		for _, vid := range []int{0, 5} {
			if e := d.Learn(vid, station(1), 0, 0); e != api.ErrNil {
				t.Errorf("%s: Learn: %d", name, e)
			}
			if e := d.Static(vid, station(1), 0); e != api.ErrNil {
				t.Errorf("%s: Static: %d", name, e)
			}
			if e := d.Unstatic(vid, station(1)); e != api.ErrNil {
				t.Errorf("%s: Unstatic: %d", name, e)
			}
			if port, found := d.Find(vid, station(1)); port != 0 || found {
				t.Errorf("%s: Find: %d %v", name, port, found)
			}
			if d.Age(math.MaxInt) != 0 || d.Flush(0) != 0 || d.Drop(vid) != 0 || len(d.All()) != 0 || d.Len() != 0 {
				t.Errorf("%s: more than zero", name)
			}
			if d.Fork() != nil {
				t.Errorf("%s: forked", name)
			}
		}
	}
}

func wrongVIDs() []int {
	return []int{math.MinInt, -1, 0, api.MaxVID + 1, 4096, 4097, 1 << 16, 1<<32 + 5, math.MaxInt}
}

func wrongAddresses() []api.MAC {
	return []api.MAC{
		{}, {0xff, 0xff, 0xff, 0xff, 0xff, 0xff}, {0x01, 0x80, 0xc2, 0, 0, 0}, {0x01, 0x80, 0xc2, 0, 0, 0x0f},
		{0x01, 0x80, 0xc2, 0, 0, 0x10}, {0x01, 0x1e, 0x83, 0, 0x13, 0x88}, {1}, {0x03, 0, 0, 0, 0, 1},
	}
}

// P7.2, P7.3, P7.7: what may not be is refused ahead of all else, and changes nothing.
func TestMayNotBe(t *testing.T) {
	there := []api.Entry{static(5, station(1), 2), static(5, station(2), 0)}
	full := holds(t, 4, 2, 10, there...)
	loose := holds(t, 4, 3, 10, append(there, learned(6, station(1), 1, 7))...)
	for _, d := range []*DB{full, loose} {
		before := d.All()
		refused := func(vid int, m api.MAC, port int) {
			t.Helper()
			if e := d.Learn(vid, m, port, 5); e != api.ErrFDB {
				t.Errorf("Learn(%d, %x, %d): %d", vid, m, port, e)
			}
			if e := d.Static(vid, m, port); e != api.ErrFDB {
				t.Errorf("Static(%d, %x, %d): %d", vid, m, port, e)
			}
		}
		for _, vid := range wrongVIDs() {
			refused(vid, station(1), 0)
		}
		for _, m := range wrongAddresses() {
			refused(5, m, 0)
		}
		for _, port := range []int{math.MinInt, -1, 4, 5, 8, 256, 1 << 32, math.MaxInt} {
			refused(5, station(1), port)
			refused(6, station(1), port)
			refused(7, station(1), port)
		}
		for _, tick := range []int{math.MinInt, -1, api.MaxTick + 1, math.MaxInt} {
			for vid := 5; vid <= 7; vid++ {
				if e := d.Learn(vid, station(1), 0, tick); e != api.ErrFDB {
					t.Errorf("Learn(%d, tick %d): %d", vid, tick, e)
				}
			}
		}
		expect(t, d, before...)
	}
}

// P7.2, P7.3: the edges of what may be.
func TestMayBe(t *testing.T) {
	for ports := 1; ports <= api.MaxPorts; ports++ {
		for _, vid := range []int{1, 2, 4093, api.MaxVID} {
			for _, m := range []api.MAC{{5: 1}, {2}, {0xfe, 0xff, 0xff, 0xff, 0xff, 0xff}, {0x00, 0x80, 0xc2}} {
				for _, tick := range []int{0, 1, 1<<31 + 1, api.MaxTick - 1, api.MaxTick} {
					d := holds(t, ports, 1, 1, learned(vid, m, ports-1, tick))
					expect(t, d, learned(vid, m, ports-1, tick))
					d = holds(t, ports, 1, 1, static(vid, m, ports-1))
					expect(t, d, static(vid, m, ports-1))
					if d.Learn(9, m, ports, 0) != api.ErrFDB || d.Static(9, m, ports) != api.ErrFDB {
						t.Errorf("port %d of %d", ports, ports)
					}
				}
			}
		}
	}
}

// P7.2: what is there already: a static one stays, a learned one has the port and the tick, be it an earlier one.
func TestLearnAgain(t *testing.T) {
	d := holds(t, 4, 2, 10, static(5, station(1), 2), learned(5, station(2), 3, 50))
	for _, tick := range []int{60, 50, 7, 0, api.MaxTick} {
		for port := range 4 {
			if d.Learn(5, station(1), port, tick) != api.OK || d.Learn(5, station(2), port, tick) != api.OK {
				t.Fatal("refused")
			}
			expect(t, d, static(5, station(1), 2), learned(5, station(2), port, tick))
		}
	}
}

// P7.2: a VLAN's addresses are not another one's.
func TestLearnApart(t *testing.T) {
	d := holds(t, 4, 256, 10, learned(5, station(1), 1, 1), learned(6, station(1), 2, 2), learned(5, station(2), 3, 3))
	expect(t, d, learned(5, station(1), 1, 1), learned(5, station(2), 3, 3), learned(6, station(1), 2, 2))
	for _, k := range []struct {
		vid int
		m   api.MAC
	}{{6, station(2)}, {4, station(1)}, {5, station(3)}, {5, api.MAC{2}}, {5, api.MAC{3, 0, 0, 0, 0, 1}}, {0, station(1)}, {-5, station(1)}, {1<<32 + 5, station(1)}, {0, api.MAC{}}} {
		if port, found := d.Find(k.vid, k.m); port != 0 || found {
			t.Errorf("%v: %d, %v", k, port, found)
		}
	}
}

// P7.2: the document's example.
func TestExample(t *testing.T) {
	a, b, c := station(9), station(8), station(7)
	d := holds(t, 1, 2, 10, learned(1, a, 0, 5), learned(1, b, 0, 6), learned(1, c, 0, 7))
	expect(t, d, learned(1, c, 0, 7), learned(1, b, 0, 6))
}

// crowd are entries of one tick, in order: VLANs count more than addresses, and an address's first byte most.
func crowd(seen int) []api.Entry {
	var list []api.Entry
	for _, vid := range []int{1, 2, 255, 256, 257, 4094} {
		for _, m := range []api.MAC{{0, 0, 0, 0, 0, 9}, {0, 0, 0, 0, 1, 8}, {0, 0, 0, 2, 0, 7}, {0, 0, 3, 0, 0, 6}, {0, 4, 0, 0, 0, 5}, {6, 0, 0, 0, 0, 0}, {0x80, 0, 0, 0, 0, 0}} {
			list = append(list, learned(vid, m, 1, seen))
		}
	}
	return list
}

// turned are these in another order, which is the same in each run.
func turned(list []api.Entry, by int64) []api.Entry {
	list = slices.Clone(list)
	rand.New(rand.NewSource(by)).Shuffle(len(list), func(i, j int) { list[i], list[j] = list[j], list[i] })
	return list
}

// P7.4: whatever the order in which they came.
func TestOrder(t *testing.T) {
	want := crowd(5)
	for by := range int64(20) {
		expect(t, holds(t, 2, 256, 1, turned(want, by)...), want...)
	}
}

// P7.2, P7.3: of one tick the first in order goes, be the newcomer learned or static.
func TestFirstGoes(t *testing.T) {
	old := crowd(5)
	for by := range int64(10) {
		for _, newcomer := range []api.Entry{learned(3000, station(0), 0, 6), static(3000, station(0), 0)} {
			d := holds(t, 2, len(old), 1, turned(old, by)...)
			for i, goes := range old {
				newcomer.M = station(byte(i))
				if e := add(d, newcomer); e != api.OK || d.Len() != len(old) {
					t.Fatalf("%+v: %d, %d", newcomer, e, d.Len())
				}
				if _, found := d.Find(goes.VID, goes.M); found {
					t.Fatalf("%+v did not go", goes)
				}
				for _, stays := range old[i+1:] {
					if _, found := d.Find(stays.VID, stays.M); !found {
						t.Fatalf("%+v went", stays)
					}
				}
			}
		}
	}
}

// P7.2, P7.3: the least Seen counts more than the order; static ones, whose Seen is 0, don't go; what was learned anew is not the eldest any more.
func TestEldestGoes(t *testing.T) {
	old := []api.Entry{static(1, station(1), 0), learned(2, station(1), 0, 9), learned(3, station(1), 0, 8), learned(4, station(1), 0, 0)}
	d := holds(t, 2, 4, 10, old...)
	if d.Learn(4, station(1), 1, 10) != api.OK || d.Learn(5, station(1), 1, 0) != api.OK {
		t.Error("refused")
	}
	now := []api.Entry{old[0], old[1], learned(4, station(1), 1, 10), learned(5, station(1), 1, 0)}
	expect(t, d, now...)
	if d.Static(6, station(1), 1) != api.OK {
		t.Error("refused")
	}
	expect(t, d, now[0], now[1], now[2], static(6, station(1), 1))
	if d.Static(2, station(1), 1) != api.OK || d.Static(4, station(1), 1) != api.OK {
		t.Error("refused")
	}
	expect(t, d, now[0], static(2, station(1), 1), static(4, station(1), 1), static(6, station(1), 1))
	if d.Learn(7, station(1), 1, 99) != api.ErrFull || d.Static(7, station(1), 1) != api.ErrFull {
		t.Error("room")
	}
	expect(t, d, now[0], static(2, station(1), 1), static(4, station(1), 1), static(6, station(1), 1))
}

// P7.2: with room for one, the newcomer takes it, be its tick less.
func TestNewcomer(t *testing.T) {
	d := holds(t, 1, 1, 10, learned(1, station(1), 0, 50))
	if d.Learn(1, station(2), 0, 3) != api.OK {
		t.Error("refused")
	}
	expect(t, d, learned(1, station(2), 0, 3))
}

// P7.2, P7.3, P7.7: when static ones take all room, only what is there already may be said; nothing else changes.
func TestNoRoom(t *testing.T) {
	for _, room := range []int{1, 2, 255, api.MaxEntries} {
		d := begin(t, 2, room, 10)
		var want []api.Entry
		for i := range room {
			want = append(want, static(i+1, station(1), 1))
			if e := d.Static(i+1, station(1), 1); e != api.OK {
				t.Fatal(e)
			}
		}
		if d.Learn(room+1, station(1), 0, 5) != api.ErrFull || d.Learn(1, station(2), 0, 5) != api.ErrFull || d.Static(room+1, station(1), 0) != api.ErrFull {
			t.Errorf("room for more than %d", room)
		}
		expect(t, d, want...)
		if d.Learn(1, station(1), 0, 5) != api.OK || d.Static(room, station(1), 0) != api.OK {
			t.Error("what is there is refused")
		}
		want[room-1].Port = 0
		expect(t, d, want...)
		if d.Unstatic(1, station(1)) != api.OK || d.Learn(room+1, station(1), 0, 5) != api.OK {
			t.Error("no room behind Unstatic")
		}
		expect(t, d, append(want[1:], learned(room+1, station(1), 0, 5))...)
	}
}

// P7.3
func TestStatic(t *testing.T) {
	d := holds(t, 4, 2, 10, learned(5, station(1), 2, 7), learned(5, station(2), 3, 8))
	if d.Static(5, station(1), 3) != api.OK {
		t.Error("refused")
	}
	expect(t, d, static(5, station(1), 3), learned(5, station(2), 3, 8))
	if d.Static(5, station(1), 0) != api.OK {
		t.Error("refused")
	}
	expect(t, d, static(5, station(1), 0), learned(5, station(2), 3, 8))
}

// P7.3: what was learned is not static; what is not there, or may not be, neither.
func TestUnstatic(t *testing.T) {
	d := holds(t, 4, 3, 10, static(5, station(1), 2), learned(5, station(2), 3, 7), static(6, station(2), 1))
	for _, vid := range append(wrongVIDs(), 4, 7) {
		if e := d.Unstatic(vid, station(1)); e != api.ErrNone {
			t.Errorf("%d: %d", vid, e)
		}
	}
	for _, m := range append(wrongAddresses(), station(2), station(3)) {
		if e := d.Unstatic(5, m); e != api.ErrNone {
			t.Errorf("%x: %d", m, e)
		}
	}
	expect(t, d, static(5, station(1), 2), learned(5, station(2), 3, 7), static(6, station(2), 1))
	if d.Unstatic(5, station(1)) != api.OK {
		t.Error("refused")
	}
	expect(t, d, learned(5, station(2), 3, 7), static(6, station(2), 1))
	if d.Unstatic(5, station(1)) != api.ErrNone || d.Unstatic(6, station(2)) != api.OK {
		t.Error("twice")
	}
	expect(t, d, learned(5, station(2), 3, 7))
}

// P7.4, P7.6: to the tick; static ones, whose Seen is 0, don't age.
func TestAge(t *testing.T) {
	for _, age := range []int{1, 2, 10, 1<<20 - 1, 1 << 20} {
		for _, seen := range []int{0, 1, 300, api.MaxTick - 1, api.MaxTick} {
			d := holds(t, 4, 9, age, static(5, station(1), 2), learned(5, station(2), 3, seen), learned(4, station(3), 3, seen))
			for _, tick := range []int{math.MinInt, -1, 0, seen - 1, seen, seen + age - 1} {
				if n := d.Age(tick); n != 0 {
					t.Errorf("age %d, seen at %d, at %d: %d", age, seen, tick, n)
				}
			}
			expect(t, d, learned(4, station(3), 3, seen), static(5, station(1), 2), learned(5, station(2), 3, seen))
			young := d.Fork()
			if n := d.Age(seen + age); n != 2 {
				t.Errorf("age %d, seen at %d: %d", age, seen, n)
			}
			if n := young.Age(math.MaxInt); n != 2 {
				t.Errorf("at the last tick: %d", n)
			}
			for _, d := range []*DB{d, young} {
				expect(t, d, static(5, station(1), 2))
				if d.Age(math.MaxInt) != 0 {
					t.Error("static ones aged")
				}
			}
		}
	}
	d := holds(t, 1, 9, 10, learned(1, station(1), 0, 5), learned(1, station(2), 0, 6), learned(1, station(3), 0, 7))
	if n := d.Age(16); n != 2 {
		t.Error(n)
	}
	expect(t, d, learned(1, station(3), 0, 7))
	d.Learn(1, station(3), 0, 8)
	if d.Age(17) != 0 || d.Age(18) != 1 || d.Len() != 0 {
		t.Error("learned anew")
	}
}

// P7.4
func TestFlush(t *testing.T) {
	d := holds(t, 4, 9, 10, static(5, station(1), 2), learned(5, station(2), 2, 1), learned(5, station(3), 0, 2), learned(6, station(2), 2, 0), learned(7, station(1), 3, 9))
	for _, port := range []int{math.MinInt, -1, 1, 4, 8, 1<<32 + 2, math.MaxInt} {
		if n := d.Flush(port); n != 0 || d.Len() != 5 {
			t.Errorf("port %d: %d", port, n)
		}
	}
	if n := d.Flush(2); n != 2 {
		t.Error(n)
	}
	expect(t, d, static(5, station(1), 2), learned(5, station(3), 0, 2), learned(7, station(1), 3, 9))
	if d.Flush(2) != 0 || d.Flush(0) != 1 || d.Flush(3) != 1 {
		t.Error("other ports")
	}
	expect(t, d, static(5, station(1), 2))
}

// P7.4: static ones, too.
func TestDrop(t *testing.T) {
	d := holds(t, 4, 9, 10, static(5, station(1), 2), learned(5, station(2), 2, 1), learned(4, station(3), 0, 2), static(6, station(2), 2), learned(4094, station(1), 3, 9))
	for _, vid := range append(wrongVIDs(), 1, 3, 7) {
		if n := d.Drop(vid); n != 0 || d.Len() != 5 {
			t.Errorf("VLAN %d: %d", vid, n)
		}
	}
	if n := d.Drop(5); n != 2 {
		t.Error(n)
	}
	expect(t, d, learned(4, station(3), 0, 2), static(6, station(2), 2), learned(4094, station(1), 3, 9))
	if d.Drop(5) != 0 || d.Drop(6) != 1 || d.Drop(4) != 1 || d.Drop(4094) != 1 || d.Len() != 0 {
		t.Error("other VLANs")
	}
}

// P7.4, P7.7: it has the same settings, and each goes its own way.
func TestFork(t *testing.T) {
	first := []api.Entry{static(5, station(1), 2), learned(5, station(2), 1, 7)}
	d := holds(t, 3, 2, 10, first...)
	twin := d.Fork()
	if twin == nil || twin == d {
		t.Fatal("no other one")
	}
	expect(t, twin, first...)
	if twin.Learn(1, station(1), 3, 0) != api.ErrFDB || twin.Learn(1, station(1), 2, 0) != api.OK {
		t.Error("other ports")
	}
	expect(t, twin, learned(1, station(1), 2, 0), static(5, station(1), 2))
	if twin.Age(9) != 0 || twin.Age(10) != 1 || twin.Static(6, station(1), 0) != api.OK || twin.Learn(1, station(1), 0, 0) != api.ErrFull {
		t.Error("another age, another room")
	}
	expect(t, d, first...)
	if d.Drop(5) != 2 {
		t.Error("drop")
	}
	expect(t, d)
	expect(t, twin, static(5, station(1), 2), static(6, station(1), 0))
	third := twin.Fork().Fork()
	third.Unstatic(6, station(1))
	expect(t, third, static(5, station(1), 2))
	expect(t, twin, static(5, station(1), 2), static(6, station(1), 0))
	empty := begin(t, 1, 1, 1).Fork()
	if empty == nil || empty.Learn(1, station(1), 0, 0) != api.OK {
		t.Error("one without entries, forked, was not made")
	}
}

// P7.7: what is told is one's own.
func TestOwnList(t *testing.T) {
	want := []api.Entry{static(5, station(1), 2), learned(5, station(2), 1, 7)}
	d := holds(t, 3, 9, 10, want...)
	list, other := d.All(), d.All()
	for i := range list {
		list[i] = api.Entry{VID: 99, Port: 99}
	}
	list = append(list[:0], api.Entry{VID: 98}, api.Entry{VID: 98})
	if !slices.Equal(other, want) {
		t.Error("two answers share memory")
	}
	expect(t, d, want...)
	d.Learn(5, station(2), 2, 9)
	d.Drop(5)
	if !slices.Equal(other, want) {
		t.Error("an answer changes with the database")
	}
}

// model is the document's words, said in another way: a list in order, gone through for each question.
type model struct {
	ports, room, age int
	list             []api.Entry
}

func (o *model) at(vid int, m api.MAC) int {
	return slices.IndexFunc(o.list, func(x api.Entry) bool { return x.VID == vid && x.M == m })
}

func (o *model) mayBe(x api.Entry) bool {
	return x.VID > 0 && x.VID < 4095 && x.M[0]&1 == 0 && x.M != api.MAC{} && x.Port >= 0 && x.Port < o.ports
}

func (o *model) add(x api.Entry) api.Errno {
	if !o.mayBe(x) || x.Seen < 0 || x.Seen > 1<<40 {
		return api.ErrFDB
	}
	if i := o.at(x.VID, x.M); i >= 0 {
		if x.Static || !o.list[i].Static {
			o.list[i] = x
		}
		return api.OK
	}
	if len(o.list) == o.room {
		goes := -1
		for i, y := range o.list {
			if !y.Static && (goes < 0 || y.Seen < o.list[goes].Seen) {
				goes = i
			}
		}
		if goes < 0 {
			return api.ErrFull
		}
		o.list = slices.Delete(o.list, goes, goes+1)
	}
	o.list = append(o.list, x)
	slices.SortFunc(o.list, func(a, b api.Entry) int {
		return cmp.Or(cmp.Compare(a.VID, b.VID), bytes.Compare(a.M[:], b.M[:]))
	})
	return api.OK
}

func (o *model) unstatic(vid int, m api.MAC) api.Errno {
	i := o.at(vid, m)
	if i < 0 || !o.list[i].Static {
		return api.ErrNone
	}
	o.list = slices.Delete(o.list, i, i+1)
	return api.OK
}

func (o *model) remove(shall func(x api.Entry) bool) int {
	before := len(o.list)
	o.list = slices.DeleteFunc(o.list, shall)
	return before - len(o.list)
}

// step does the same, by chance, to both: what was answered.
func step(r *rand.Rand, d *DB, o *model) (string, int, int) {
	vid, port, tick := r.Intn(5), r.Intn(o.ports+2)-1, r.Intn(40)
	m := [...]api.MAC{station(1), station(2), station(3), {0x10, 0, 0, 0, 0, 1}, {0, 0, 0, 0, 0, 9}, {1, 0, 0, 0, 0, 1}, {}}[r.Intn(7)]
	if r.Intn(20) == 0 {
		tick = [...]int{-1, api.MaxTick, api.MaxTick + 1}[r.Intn(3)]
	}
	switch n := r.Intn(30); {
	case n < 16:
		return "Learn", int(d.Learn(vid, m, port, tick)), int(o.add(learned(vid, m, port, tick)))
	case n < 21:
		return "Static", int(d.Static(vid, m, port)), int(o.add(static(vid, m, port)))
	case n < 25:
		return "Unstatic", int(d.Unstatic(vid, m)), int(o.unstatic(vid, m))
	case n < 27:
		return "Age", d.Age(tick), o.remove(func(x api.Entry) bool { return !x.Static && x.Seen+o.age <= tick })
	case n < 29:
		return "Flush", d.Flush(port), o.remove(func(x api.Entry) bool { return !x.Static && x.Port == port })
	}
	return "Drop", d.Drop(vid), o.remove(func(x api.Entry) bool { return x.VID == vid })
}

// P7.2 to P7.7: long rows of calls, held against the model behind each of them; a fork stays behind now and then, and must not change.
func TestAgainstModel(t *testing.T) {
	for seed := range int64(300) {
		r := rand.New(rand.NewSource(seed))
		o := &model{ports: 1 + r.Intn(api.MaxPorts), room: 1 + r.Intn(12), age: 1 + r.Intn(30)}
		d := begin(t, o.ports, o.room, o.age)
		left, kept := d.Fork(), []api.Entry(nil)
		for i := range 400 {
			name, got, want := step(r, d, o)
			if all := d.All(); got != want || !slices.Equal(all, o.list) || d.Len() != len(o.list) || d.Len() > o.room {
				t.Fatalf("seed %d, call %d, %s: %d, not %d; %+v, not %+v", seed, i, name, got, want, all, o.list)
			}
			for vid := range 5 {
				for _, m := range []api.MAC{station(1), station(2), station(3), {0x10, 0, 0, 0, 0, 1}, {0, 0, 0, 0, 0, 9}, {1, 0, 0, 0, 0, 1}, {}} {
					port, found := d.Find(vid, m)
					if at := o.at(vid, m); found != (at >= 0) || found && port != o.list[at].Port || !found && port != 0 {
						t.Fatalf("seed %d, call %d: Find(%d, %x): %d, %v", seed, i, vid, m, port, found)
					}
				}
			}
			if i%50 == 0 {
				if !slices.Equal(left.All(), kept) {
					t.Fatalf("seed %d, call %d: the fork changed", seed, i)
				}
				left, kept = d, slices.Clone(o.list)
				d = d.Fork()
			}
		}
	}
}

// P7.5: at the greatest room, and one past it.
func TestBounded(t *testing.T) {
	d := begin(t, 8, api.MaxEntries, 1)
	for i := range 2 * api.MaxEntries {
		if e := d.Learn(i+1, station(1), i%8, i); e != api.OK || d.Len() != min(i+1, api.MaxEntries) {
			t.Fatalf("%d: %d, %d", i, e, d.Len())
		}
		if _, found := d.Find(i-api.MaxEntries+1, station(1)); found {
			t.Fatalf("%d: the eldest one is still there", i)
		}
		if _, found := d.Find(max(1, i-api.MaxEntries+2), station(1)); !found {
			t.Fatalf("%d: another one than the eldest went", i)
		}
	}
}
