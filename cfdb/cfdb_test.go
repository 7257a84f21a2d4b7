package cfdb

import (
	"bytes"
	"cmp"
	"math"
	"math/rand"
	"slices"
	"testing"

	"pontage/api"
)

func customer(n byte) api.MAC { return api.MAC{2, 0, 0, 0, 0, n} }

func backbone(n byte) api.MAC { return api.MAC{0x12, 0, 0, 0, 0, n} }

func known(isid int, c, at api.MAC, seen int) api.Known {
	return api.Known{ISID: isid, C: c, B: at, Seen: seen}
}

func learn(b *Base, x api.Known) api.Errno { return b.Learn(x.ISID, x.C, x.B, x.Seen) }

func begin(t *testing.T, room, age int) *Base {
	t.Helper()
	b, e := New(room, age)
	if e != api.OK || b == nil {
		t.Fatalf("New(%d, %d): %v, %d", room, age, b, e)
	}
	return b
}

// holds is a base that learned these.
func holds(t *testing.T, room, age int, list ...api.Known) *Base {
	t.Helper()
	b := begin(t, room, age)
	for _, x := range list {
		if e := learn(b, x); e != api.OK {
			t.Fatalf("%+v: %d", x, e)
		}
	}
	return b
}

func expect(t *testing.T, b *Base, want ...api.Known) {
	t.Helper()
	if got := b.All(); !slices.Equal(got, want) {
		t.Errorf("there are %+v, not %+v", got, want)
	}
	if b.Len() != len(want) {
		t.Errorf("Len: %d, not %d", b.Len(), len(want))
	}
	behind := map[api.MAC]int{}
	for _, x := range want {
		behind[x.B]++
		if at, found := b.Find(x.ISID, x.C); at != x.B || !found {
			t.Errorf("%+v: found behind %x, %v", x, at, found)
		}
	}
	for at, n := range behind {
		if got := b.Behind(at); got != n {
			t.Errorf("behind %x: %d, not %d", at, got, n)
		}
	}
}

// P8.1: all that is at an edge, with all others.
func TestNew(t *testing.T) {
	rooms, ages := []int{1, 2, 255, api.MaxEntries}, []int{1, 2, 1<<20 - 1, 1 << 20}
	wrong := []int{math.MinInt, -1, 0, 1<<32 + 1, math.MaxInt}
	for _, room := range slices.Concat(rooms, wrong, []int{257, 65537}) {
		for _, age := range slices.Concat(ages, wrong, []int{1<<20 + 1}) {
			b, e := New(room, age)
			if slices.Contains(rooms, room) && slices.Contains(ages, age) {
				if e != api.OK || b == nil || b.Len() != 0 || len(b.All()) != 0 {
					t.Errorf("New(%d, %d): %v, %d", room, age, b, e)
				}
			} else if e != api.ErrCFDB || b != nil {
				t.Errorf("New(%d, %d): %v, %d", room, age, b, e)
			}
		}
	}
}

// P8.1 to P8.3: a base that nobody made; that comes ahead of what may not be.
func TestNotMade(t *testing.T) {
	for name, b := range map[string]*Base{"nil": nil, "by hand": {}, "new": new(Base)} {
		for _, isid := range []int{0, 5} {
			for _, m := range []api.MAC{{}, customer(1)} {
				if e := b.Learn(isid, m, m, 0); e != api.ErrNil {
					t.Errorf("%s: Learn: %d", name, e)
				}
				if at, found := b.Find(isid, m); at != (api.MAC{}) || found {
					t.Errorf("%s: Find: %x %v", name, at, found)
				}
				if b.Age(math.MaxInt) != 0 || b.Flush() != 0 || b.Flush(isid, 7) != 0 || b.Gone(m) != 0 || b.Behind(m) != 0 || len(b.All()) != 0 || b.Len() != 0 {
					t.Errorf("%s: more than zero", name)
				}
				if b.Fork() != nil {
					t.Errorf("%s: forked", name)
				}
			}
		}
	}
}

func wrongServices() []int {
	return []int{math.MinInt, -1, 0, api.MaxISID + 1, api.MaxISID + 6, 1<<25 + 5, 1<<32 + 5, math.MaxInt}
}

func wrongAddresses() []api.MAC {
	return []api.MAC{
		{}, {0xff, 0xff, 0xff, 0xff, 0xff, 0xff}, {0x01, 0x80, 0xc2, 0, 0, 0}, {0x01, 0x80, 0xc2, 0, 0, 0x0f},
		{0x01, 0x80, 0xc2, 0, 0, 0x10}, {0x01, 0x1e, 0x83, 0, 0x13, 0x88}, {1}, {0x03, 0, 0, 0, 0, 1},
	}
}

// P8.1: what may not be is refused, and changes nothing, be there room or not, be it of an entry that is there or not.
func TestMayNotBe(t *testing.T) {
	there := []api.Known{known(5, customer(1), backbone(1), 3), known(6, customer(1), backbone(2), 4)}
	for room := 2; room <= 3; room++ {
		b := holds(t, room, 10, there...)
		refused := func(x api.Known) {
			t.Helper()
			if e := learn(b, x); e != api.ErrCFDB {
				t.Errorf("room %d: %+v: %d", room, x, e)
			}
		}
		for _, isid := range wrongServices() {
			refused(known(isid, customer(1), backbone(3), 5))
		}
		for _, m := range wrongAddresses() {
			refused(known(5, m, backbone(3), 5))
			refused(known(5, customer(1), m, 5))
			refused(known(7, customer(1), m, 5))
			refused(known(7, m, m, 5))
		}
		for _, tick := range []int{math.MinInt, -1, api.MaxTick + 1, math.MaxInt} {
			refused(known(5, customer(1), backbone(3), tick))
			refused(known(7, customer(1), backbone(3), tick))
		}
		expect(t, b, there...)
	}
}

// P8.1: the edges of what may be; a backbone address may be a customer's own.
func TestMayBe(t *testing.T) {
	stations := []api.MAC{{5: 1}, {2}, {0xfe, 0xff, 0xff, 0xff, 0xff, 0xff}, {0x00, 0x80, 0xc2}, {0x00, 0x1e, 0x83, 0, 0, 5}}
	for _, isid := range []int{1, 2, 4095, 1 << 16, api.MaxISID - 1, api.MaxISID} {
		for _, c := range stations {
			for _, at := range stations {
				for _, tick := range []int{0, 1, 1<<31 + 1, 1 << 32, api.MaxTick - 1, api.MaxTick} {
					x := known(isid, c, at, tick)
					expect(t, holds(t, 1, 1, x), x)
				}
			}
		}
	}
}

// P8.1, P8.4: what is there lies behind the new address, learned at that tick, be it an earlier one; a full base loses nothing by it.
func TestLearnAgain(t *testing.T) {
	first := known(5, customer(1), backbone(1), 0)
	b := holds(t, 2, 10, first, known(5, customer(2), backbone(1), 50))
	for _, tick := range []int{60, 50, 7, 0, api.MaxTick} {
		for n := range byte(4) {
			if e := b.Learn(5, customer(2), backbone(n), tick); e != api.OK {
				t.Fatal(e)
			}
			expect(t, b, first, known(5, customer(2), backbone(n), tick))
		}
	}
}

// P8.6: a service's addresses are not another one's; zeros and false for what was not learned.
func TestApart(t *testing.T) {
	list := []api.Known{known(5, customer(1), backbone(1), 1), known(5, customer(2), backbone(3), 3), known(6, customer(1), backbone(2), 2)}
	b := holds(t, 256, 10, list[2], list[1], list[0])
	expect(t, b, list...)
	for _, k := range []key{{6, customer(2)}, {4, customer(1)}, {5, customer(3)}, {5, backbone(1)}, {5, api.MAC{2}}, {0, customer(1)}, {-5, customer(1)}, {1<<24 + 5, customer(1)}, {1<<32 + 5, customer(1)}, {0, api.MAC{}}} {
		if at, found := b.Find(k.isid, k.c); at != (api.MAC{}) || found {
			t.Errorf("%v: %x, %v", k, at, found)
		}
	}
	for isid := 7; isid < 200; isid++ {
		if e := b.Learn(isid, customer(1), backbone(9), 9); e != api.OK {
			t.Fatal(e)
		}
		if got := b.All()[:3]; !slices.Equal(got, list) {
			t.Fatalf("service %d changes others: %+v", isid, got)
		}
	}
}

// P8.1: the document's example.
func TestExample(t *testing.T) {
	a, b, c, x := customer(9), customer(8), customer(7), backbone(1)
	base := holds(t, 2, 10, known(5, a, x, 1), known(5, b, x, 2), known(5, c, x, 3))
	expect(t, base, known(5, c, x, 3), known(5, b, x, 2))
	if at, found := base.Find(5, a); at != (api.MAC{}) || found {
		t.Errorf("the eldest is found: %x, %v", at, found)
	}
}

// crowd are entries of one tick, in order: services count more than addresses, and an address's first byte most. Behind which address they lie counts nothing.
func crowd(seen int) []api.Known {
	var list []api.Known
	for _, isid := range []int{1, 2, 255, 256, 65536, api.MaxISID} {
		for i, m := range []api.MAC{{0, 0, 0, 0, 0, 9}, {0, 0, 0, 0, 1, 8}, {0, 0, 0, 2, 0, 7}, {0, 0, 3, 0, 0, 6}, {0, 4, 0, 0, 0, 5}, {6, 0, 0, 0, 0, 0}, {0x80, 0, 0, 0, 0, 0}} {
			list = append(list, known(isid, m, backbone(byte(9-i)), seen))
		}
	}
	return list
}

// turned are these in another order, which is the same in each run.
func turned(list []api.Known, by int64) []api.Known {
	list = slices.Clone(list)
	rand.New(rand.NewSource(by)).Shuffle(len(list), func(i, j int) { list[i], list[j] = list[j], list[i] })
	return list
}

// P8.3: whatever the order in which they came.
func TestOrder(t *testing.T) {
	want := crowd(5)
	for by := range int64(20) {
		expect(t, holds(t, 256, 1, turned(want, by)...), want...)
	}
}

// P8.1: of one tick the first in order goes.
func TestFirstGoes(t *testing.T) {
	old := crowd(5)
	for by := range int64(10) {
		b := holds(t, len(old), 1, turned(old, by)...)
		for i, goes := range old {
			if e := b.Learn(3000, customer(byte(i)), backbone(0), 6); e != api.OK || b.Len() != len(old) {
				t.Fatalf("newcomer %d: %d, %d", i, e, b.Len())
			}
			if _, found := b.Find(goes.ISID, goes.C); found {
				t.Fatalf("%+v did not go", goes)
			}
			for _, stays := range old[i+1:] {
				if _, found := b.Find(stays.ISID, stays.C); !found {
					t.Fatalf("%+v went", stays)
				}
			}
		}
	}
}

// P8.1: the least Seen counts more than the order; what was learned anew is not the eldest any more; and one that is made the eldest by an earlier tick goes.
func TestEldestGoes(t *testing.T) {
	at := backbone(1)
	b := holds(t, 3, 10, known(1, customer(3), at, 9), known(2, customer(2), at, 8), known(3, customer(1), at, 0))
	b.Learn(3, customer(1), at, 10)
	b.Learn(4, customer(1), at, 11)
	expect(t, b, known(1, customer(3), at, 9), known(3, customer(1), at, 10), known(4, customer(1), at, 11))
	b.Learn(4, customer(1), at, 1)
	b.Learn(5, customer(1), at, 12)
	expect(t, b, known(1, customer(3), at, 9), known(3, customer(1), at, 10), known(5, customer(1), at, 12))
}

// P8.1: with room for one, the newcomer takes it, be its tick less.
func TestNewcomer(t *testing.T) {
	b := holds(t, 1, 10, known(1, customer(1), backbone(1), 50), known(2, customer(1), backbone(1), 3))
	expect(t, b, known(2, customer(1), backbone(1), 3))
}

// P8.5: at the greatest room, and one past it.
func TestBounded(t *testing.T) {
	for _, room := range []int{1, 2, 255, api.MaxEntries} {
		b := begin(t, room, 1)
		for i := range 2*room + 3 {
			if e := b.Learn(i+1, customer(1), backbone(1), i); e != api.OK || b.Len() != min(i+1, room) || len(b.All()) != b.Len() {
				t.Fatalf("room %d, %d: %d, %d", room, i, e, b.Len())
			}
			if _, found := b.Find(i-room+1, customer(1)); found {
				t.Fatalf("room %d, %d: the eldest is still there", room, i)
			}
			if _, found := b.Find(max(1, i-room+2), customer(1)); !found {
				t.Fatalf("room %d, %d: another one than the eldest went", room, i)
			}
		}
	}
}

// P8.2: to the tick: what is just as old as may be stays.
func TestAge(t *testing.T) {
	for _, age := range []int{1, 2, 10, 1<<20 - 1, 1 << 20} {
		for _, seen := range []int{0, 1, 300, api.MaxTick - 1, api.MaxTick} {
			list := []api.Known{known(4, customer(3), backbone(1), seen), known(5, customer(2), backbone(2), seen)}
			b := holds(t, 9, age, list...)
			for _, tick := range []int{math.MinInt, -1, 0, seen - 1, seen, seen + 1, seen + age - 1, seen + age} {
				if n := b.Age(tick); n != 0 {
					t.Errorf("age %d, seen at %d, at %d: %d", age, seen, tick, n)
				}
			}
			expect(t, b, list...)
			for _, tick := range []int{seen + age + 1, math.MaxInt} {
				old := b.Fork()
				if n := old.Age(tick); n != 2 || old.Age(tick) != 0 {
					t.Errorf("age %d, seen at %d, at %d: %d", age, seen, tick, n)
				}
				expect(t, old)
			}
		}
	}
	b := holds(t, 9, 10, known(1, customer(1), backbone(1), 5), known(1, customer(2), backbone(1), 6), known(1, customer(3), backbone(1), 7))
	if n := b.Age(17); n != 2 {
		t.Error(n)
	}
	expect(t, b, known(1, customer(3), backbone(1), 7))
	b.Learn(1, customer(3), backbone(1), 8)
	if b.Age(18) != 0 || b.Age(19) != 1 || b.Len() != 0 {
		t.Error("learned anew")
	}
}

// P8.2: none, one, several services; one that is named twice goes once; the list is not changed.
func TestFlush(t *testing.T) {
	list := []api.Known{known(4, customer(2), backbone(1), 9), known(5, customer(1), backbone(1), 1), known(5, customer(2), backbone(2), 2), known(6, customer(1), backbone(1), 3), known(api.MaxISID, customer(1), backbone(1), 4)}
	b := holds(t, 9, 10, list...)
	if b.Flush() != 0 || b.Flush([]int{}...) != 0 || b.Flush(nil...) != 0 || b.Flush(wrongServices()...) != 0 || b.Flush(3, 7, 1<<32+5) != 0 {
		t.Error("what was not named went")
	}
	for _, isid := range wrongServices() {
		if n := b.Flush(isid); n != 0 {
			t.Errorf("service %d: %d", isid, n)
		}
	}
	expect(t, b, list...)
	one := b.Fork()
	if n := one.Flush(5); n != 2 || one.Flush(5) != 0 {
		t.Error(n)
	}
	expect(t, one, list[0], list[3], list[4])
	named := []int{api.MaxISID, 7, 5, 5, 0, -1, 4, 5}
	handed := slices.Clone(named)
	if n := b.Flush(handed...); n != 4 || !slices.Equal(handed, named) {
		t.Errorf("%d; %v", n, handed)
	}
	expect(t, b, list[3])
	if b.Flush(6) != 1 || b.Len() != 0 {
		t.Error("the last one")
	}
}

// P8.2, P8.3: of all services; a customer's own address is not what it lies behind.
func TestGone(t *testing.T) {
	list := []api.Known{known(4, customer(2), backbone(1), 9), known(5, customer(1), backbone(1), 1), known(5, customer(2), backbone(2), 2), known(6, backbone(1), backbone(3), 3)}
	b := holds(t, 9, 10, list...)
	for _, m := range append(wrongAddresses(), customer(1), customer(2), backbone(4), api.MAC{0x12}) {
		if b.Behind(m) != 0 || b.Gone(m) != 0 {
			t.Errorf("some lie behind %x", m)
		}
	}
	expect(t, b, list...)
	if b.Behind(backbone(1)) != 2 || b.Gone(backbone(1)) != 2 || b.Behind(backbone(1)) != 0 || b.Gone(backbone(1)) != 0 {
		t.Error("of two services")
	}
	expect(t, b, list[2], list[3])
	b.Learn(5, customer(2), backbone(3), 4)
	if b.Gone(backbone(2)) != 0 || b.Behind(backbone(3)) != 2 || b.Gone(backbone(3)) != 2 || b.Len() != 0 {
		t.Error("one that lies elsewhere now")
	}
}

// P8.3: it has the same settings, and each goes its own way.
func TestFork(t *testing.T) {
	first := []api.Known{known(5, customer(1), backbone(1), 6), known(5, customer(2), backbone(2), 7)}
	b := holds(t, 2, 10, first...)
	twin := b.Fork()
	if twin == nil || twin == b {
		t.Fatal("no other one")
	}
	expect(t, twin, first...)
	if twin.Learn(6, customer(1), backbone(1), 8) != api.OK {
		t.Error("refused")
	}
	expect(t, twin, first[1], known(6, customer(1), backbone(1), 8))
	if twin.Age(17) != 0 || twin.Age(18) != 1 {
		t.Error("another age")
	}
	expect(t, b, first...)
	if b.Flush(5, 6) != 2 {
		t.Error("flush")
	}
	expect(t, b)
	expect(t, twin, known(6, customer(1), backbone(1), 8))
	third := twin.Fork().Fork()
	third.Gone(backbone(1))
	expect(t, third)
	expect(t, twin, known(6, customer(1), backbone(1), 8))
	if empty := begin(t, 1, 1).Fork(); empty == nil || empty.Learn(1, customer(1), backbone(1), 0) != api.OK {
		t.Error("one without entries, forked, was not made")
	}
}

// P8.3: what is told is one's own.
func TestOwnList(t *testing.T) {
	want := []api.Known{known(5, customer(1), backbone(1), 6), known(5, customer(2), backbone(2), 7)}
	b := holds(t, 9, 10, want...)
	list, other := b.All(), b.All()
	clear(list)
	if !slices.Equal(other, want) {
		t.Error("two answers share memory")
	}
	expect(t, b, want...)
	b.Learn(5, customer(2), backbone(3), 9)
	b.Flush(5)
	if !slices.Equal(other, want) {
		t.Error("an answer changes with the base")
	}
}

// model is the document's words, said in another way: a list in order, gone through for each question.
type model struct {
	room, age int
	list      []api.Known
}

func (o *model) at(isid int, c api.MAC) int {
	return slices.IndexFunc(o.list, func(x api.Known) bool { return x.ISID == isid && x.C == c })
}

func single(m api.MAC) bool { return m[0]&1 == 0 && m != api.MAC{} }

func (o *model) learn(x api.Known) api.Errno {
	if x.ISID < 1 || x.ISID >= 1<<24 || !single(x.C) || !single(x.B) || x.Seen < 0 || x.Seen > 1<<40 {
		return api.ErrCFDB
	}
	if i := o.at(x.ISID, x.C); i >= 0 {
		o.list[i] = x
		return api.OK
	}
	if len(o.list) == o.room {
		goes := 0
		for i, y := range o.list {
			if y.Seen < o.list[goes].Seen {
				goes = i
			}
		}
		o.list = slices.Delete(o.list, goes, goes+1)
	}
	o.list = append(o.list, x)
	slices.SortFunc(o.list, func(x, y api.Known) int {
		return cmp.Or(cmp.Compare(x.ISID, y.ISID), bytes.Compare(x.C[:], y.C[:]))
	})
	return api.OK
}

func (o *model) remove(shall func(x api.Known) bool) int {
	before := len(o.list)
	o.list = slices.DeleteFunc(o.list, shall)
	return before - len(o.list)
}

func (o *model) behind(at api.MAC) int {
	n := 0
	for _, x := range o.list {
		if x.B == at {
			n++
		}
	}
	return n
}

func some() [7]api.MAC {
	return [...]api.MAC{customer(1), customer(2), customer(3), {0x10, 0, 0, 0, 0, 1}, {0, 0, 0, 0, 0, 9}, {1, 0, 0, 0, 0, 1}, {}}
}

// step does the same, by chance, to both: what was answered.
func step(r *rand.Rand, b *Base, o *model) (string, int, int) {
	isid, tick := r.Intn(5), r.Intn(40)
	c, at := some()[r.Intn(7)], some()[r.Intn(7)]
	if r.Intn(20) == 0 {
		tick = [...]int{-1, api.MaxTick, api.MaxTick + 1}[r.Intn(3)]
	}
	switch n := r.Intn(30); {
	case n < 24:
		return "Learn", int(b.Learn(isid, c, at, tick)), int(o.learn(known(isid, c, at, tick)))
	case n < 26:
		return "Age", b.Age(tick), o.remove(func(x api.Known) bool { return x.Seen+o.age < tick })
	case n < 27:
		return "Gone", b.Gone(at), o.remove(func(x api.Known) bool { return x.B == at })
	case n < 28:
		return "Flush", b.Flush(isid), o.remove(func(x api.Known) bool { return x.ISID == isid })
	case n < 29:
		other := r.Intn(5)
		return "Flush of two", b.Flush(isid, other), o.remove(func(x api.Known) bool { return x.ISID == isid || x.ISID == other })
	}
	return "Behind", b.Behind(at), o.behind(at)
}

// P8.1 to P8.6: long rows of calls, held against the model behind each of them; a fork stays behind now and then, and must not change.
func TestAgainstModel(t *testing.T) {
	for seed := range int64(300) {
		r := rand.New(rand.NewSource(seed))
		o := &model{room: 1 + r.Intn(16), age: 1 + r.Intn(30)}
		b := begin(t, o.room, o.age)
		left, kept := b.Fork(), []api.Known(nil)
		for i := range 400 {
			name, got, want := step(r, b, o)
			if all := b.All(); got != want || !slices.Equal(all, o.list) || b.Len() != len(o.list) || b.Len() > o.room {
				t.Fatalf("seed %d, call %d, %s: %d, not %d; %+v, not %+v", seed, i, name, got, want, all, o.list)
			}
			for isid := range 5 {
				for _, c := range some() {
					at, found := b.Find(isid, c)
					if n := o.at(isid, c); found != (n >= 0) || found && at != o.list[n].B || !found && at != (api.MAC{}) {
						t.Fatalf("seed %d, call %d: Find(%d, %x): %x, %v", seed, i, isid, c, at, found)
					}
				}
			}
			if i%50 == 0 {
				if !slices.Equal(left.All(), kept) {
					t.Fatalf("seed %d, call %d: the fork changed", seed, i)
				}
				left, kept = b, slices.Clone(o.list)
				b = b.Fork()
			}
		}
	}
}

// P8.4, P8.6: what was learned last is found, and what others' services have stays, but for the one that goes when there is no room.
func TestFoundAndApart(t *testing.T) {
	r := rand.New(rand.NewSource(8))
	for range 200 {
		room := 1 + r.Intn(10)
		b := begin(t, room, 1<<20)
		for tick := range 60 {
			x := known(1+r.Intn(4), customer(byte(r.Intn(5))), backbone(byte(r.Intn(3))), tick)
			before := b.All()
			_, there := b.Find(x.ISID, x.C)
			learn(b, x)
			if at, found := b.Find(x.ISID, x.C); at != x.B || !found {
				t.Fatalf("%+v: %x, %v", x, at, found)
			}
			lost := 0
			for _, y := range before {
				if y.ISID == x.ISID && y.C == x.C {
					continue
				}
				if at, found := b.Find(y.ISID, y.C); !found {
					lost++
				} else if at != y.B {
					t.Fatalf("%+v lies behind %x, since %+v was learned", y, at, x)
				}
			}
			if full := !there && len(before) == room; full && lost != 1 || !full && lost != 0 {
				t.Fatalf("room %d: %d went, since %+v was learned among %d", room, lost, x, len(before))
			}
		}
	}
}
