package vector

import (
	"bytes"
	"encoding/binary"
	"math"
	"slices"
	"testing"

	"pontage/api"
)

// low and high are vectors whose every part is the least, and the greatest.
var (
	low  = api.Vector{}
	high = api.Vector{Root: math.MaxUint64, Cost: math.MaxUint32, Bridge: math.MaxUint64, Port: math.MaxUint16}
)

// sorts are vectors of all parts' edges with all others': both ends, the highest bits, and what differs above 32 bits only.
func sorts() []api.Vector {
	return cross(
		[]uint64{0, 1, 1 << 32, 1<<48 + 1, math.MaxInt64, 1 << 63, math.MaxUint64},
		[]uint32{0, 5, math.MaxInt32, 1 << 31, math.MaxUint32},
		[]uint16{0, 0x1001, 0x7fff, 0x8001, math.MaxUint16})
}

// few are some of these, bridges and ports of unlike priorities among them: few enough for all triples.
func few() []api.Vector {
	return cross([]uint64{1, 1<<48 + 1, 1 << 63}, []uint32{0, math.MaxInt32, 1 << 31}, []uint16{0, 0x1001, 0x8001})
}

func cross(ids []uint64, costs []uint32, ports []uint16) []api.Vector {
	var list []api.Vector
	for _, r := range ids {
		for _, c := range costs {
			for _, b := range ids {
				for _, p := range ports {
					list = append(list, api.Vector{Root: r, Cost: c, Bridge: b, Port: p})
				}
			}
		}
	}
	return list
}

// order is the document's word, said in another way: vectors stand as their bytes do, the highest first.
func order(a, b api.Vector) int {
	return bytes.Compare(inBytes(a), inBytes(b))
}

func inBytes(v api.Vector) []byte {
	b := binary.BigEndian.AppendUint64(nil, v.Root)
	b = binary.BigEndian.AppendUint32(b, v.Cost)
	b = binary.BigEndian.AppendUint64(b, v.Bridge)
	return binary.BigEndian.AppendUint16(b, v.Port)
}

// P6.1, P6.5: all pairs; just one of two that differ is better.
func TestCompare(t *testing.T) {
	list := sorts()
	keys := make([][]byte, len(list))
	for i, v := range list {
		keys[i] = inBytes(v)
	}
	for i, a := range list {
		for k, b := range list {
			want := bytes.Compare(keys[i], keys[k])
			if got := Compare(a, b); got != want {
				t.Fatalf("%+v %+v: %d, not %d", a, b, got, want)
			}
			if Better(a, b) != (want < 0) {
				t.Fatalf("%+v %+v: better: %v", a, b, Better(a, b))
			}
			if a != b && Better(a, b) == Better(b, a) || a == b && Better(a, b) {
				t.Fatalf("%+v %+v: %v and %v", a, b, Better(a, b), Better(b, a))
			}
		}
	}
}

// P6.1: an earlier part counts more than all behind it, and a part of one bit more is worse.
func TestComparePart(t *testing.T) {
	for _, p := range []struct{ better, worse api.Vector }{
		{api.Vector{Root: 1, Cost: high.Cost, Bridge: high.Bridge, Port: high.Port}, api.Vector{Root: 2}},
		{api.Vector{Cost: 1, Bridge: high.Bridge, Port: high.Port}, api.Vector{Cost: 2}},
		{api.Vector{Bridge: 1, Port: high.Port}, api.Vector{Bridge: 2}},
		{api.Vector{Port: 1}, api.Vector{Port: 2}},
		{api.Vector{Root: 1, Cost: 5, Bridge: 3}, api.Vector{Root: 1, Cost: 5, Bridge: 4}}, // the document's example
		{low, high},
	} {
		if Compare(p.better, p.worse) != -1 || Compare(p.worse, p.better) != 1 || !Better(p.better, p.worse) || Better(p.worse, p.better) {
			t.Errorf("%+v %+v: %d %d", p.better, p.worse, Compare(p.better, p.worse), Compare(p.worse, p.better))
		}
	}
	for i := range 64 {
		for _, v := range []api.Vector{{Root: 1 << i}, {Cost: 1 << (i % 32)}, {Bridge: 1 << i}, {Port: 1 << (i % 16)}} {
			if want := order(low, v); Compare(low, v) != want || Compare(v, low) != -want || Compare(v, v) != 0 {
				t.Errorf("%+v: %d %d %d", v, Compare(low, v), Compare(v, low), Compare(v, v))
			}
		}
	}
}

// P6.5: what is better than one that is better than a third one is better than that.
func TestOrder(t *testing.T) {
	list := few()
	for _, a := range list {
		for _, b := range list {
			if !Better(a, b) {
				continue
			}
			for _, c := range list {
				if Better(b, c) && !Better(a, c) {
					t.Fatalf("%+v %+v %+v", a, b, c)
				}
			}
		}
	}
}

// P6.5: sorting by it brings each list of unlike ones into the same order.
func TestSorted(t *testing.T) {
	list := sorts()
	want := slices.Clone(list)
	slices.SortFunc(want, order)
	slices.Reverse(list)
	slices.SortFunc(list, Compare)
	if !slices.Equal(list, want) {
		t.Error("another order")
	}
}

// P6.1: all pairs; the parts' priorities are left out of who told it.
func TestSuperior(t *testing.T) {
	list := sorts()
	for _, m := range few() {
		for _, p := range list {
			same := m.Bridge<<16 == p.Bridge<<16 && m.Port<<4 == p.Port<<4
			if want := same || order(m, p) < 0; Superior(m, p) != want {
				t.Fatalf("%+v %+v: %v", m, p, !want)
			}
			same = p.Bridge<<16 == m.Bridge<<16 && p.Port<<4 == m.Port<<4
			if want := same || order(p, m) < 0; Superior(p, m) != want {
				t.Fatalf("%+v %+v: %v", p, m, !want)
			}
		}
	}
}

// P6.1: a worse one is superior, if it differs in no bit of the address and of the number; the document's example is one.
func TestSuperiorBits(t *testing.T) {
	worse, p := api.Vector{Root: 1, Cost: 9, Bridge: 3, Port: 7}, api.Vector{Root: 1, Cost: 5, Bridge: 3, Port: 7}
	if !Superior(worse, p) || Better(worse, p) || !Superior(p, worse) || !Superior(p, p) {
		t.Error("the example")
	}
	for i := range 64 {
		m := worse
		m.Bridge ^= 1 << i
		if Superior(m, p) != (i >= 48) {
			t.Errorf("bit %d of Bridge: %v", i, i < 48)
		}
	}
	for i := range 16 {
		m := worse
		m.Port ^= 1 << i
		if Superior(m, p) != (i >= 12) {
			t.Errorf("bit %d of Port: %v", i, i < 12)
		}
	}
	if Superior(api.Vector{Root: 2, Bridge: 3, Port: 8}, p) || Superior(api.Vector{Root: 2, Bridge: 4, Port: 7}, p) {
		t.Error("only one of address and number is alike")
	}
	if m := (api.Vector{Root: 9, Cost: 9, Bridge: 0xffff<<48 | 3, Port: 0xf007}); !Superior(m, p) {
		t.Error("priorities count")
	}
}

// P6.2: and round at 2^32.
func TestAdd(t *testing.T) {
	costs := []uint32{0, 1, 2, 20000, 200000000, math.MaxInt32, 1 << 31, math.MaxUint32 - 1, math.MaxUint32}
	for _, v := range sorts() {
		for _, cost := range costs {
			want := v
			want.Cost = uint32((uint64(v.Cost) + uint64(cost)) % (1 << 32))
			if got := Add(v, cost); got != want {
				t.Fatalf("%+v and %d: %+v", v, cost, got)
			}
		}
	}
	if v := Add(high, 1); v.Cost != 0 || v.Root != high.Root {
		t.Errorf("%+v", v)
	}
	if v := Add(api.Vector{Root: 1, Cost: 5, Bridge: 3, Port: 7}, 4); v != (api.Vector{Root: 1, Cost: 9, Bridge: 3, Port: 7}) {
		t.Errorf("%+v", v)
	}
}

// P6.6: also where the sum goes round.
func TestSameCost(t *testing.T) {
	list := sorts()
	for _, a := range few() {
		for _, b := range list {
			b.Root, b.Cost = a.Root, a.Cost
			for _, cost := range []uint32{0, 1, 20000, 1 << 31, math.MaxUint32} {
				if Better(a, b) != Better(Add(a, cost), Add(b, cost)) || Compare(a, b) != Compare(Add(a, cost), Add(b, cost)) {
					t.Fatalf("%+v %+v and %d", a, b, cost)
				}
			}
		}
	}
}

// P6.2
func TestBest(t *testing.T) {
	one, two, three := api.Vector{Root: 1}, api.Vector{Root: 1, Port: 1}, api.Vector{Root: 2}
	for _, c := range []struct {
		want int
		l    []api.Vector
	}{
		{-1, nil},
		{-1, []api.Vector{}},
		{0, []api.Vector{low}},
		{0, []api.Vector{high}},
		{0, []api.Vector{one, two, three}},
		{1, []api.Vector{two, one, three}},
		{2, []api.Vector{three, two, one}},
		{2, []api.Vector{two, three, one}},
		{0, []api.Vector{one, one, one}},
		{0, []api.Vector{high, high}},
		{1, []api.Vector{two, one, one}},
		{1, []api.Vector{three, one, two, one}},
		{2, []api.Vector{three, two, one, one}},
		{3, []api.Vector{high, three, two, low, one, low}},
	} {
		if got := Best(c.l...); got != c.want {
			t.Errorf("%+v: %d, not %d", c.l, got, c.want)
		}
	}
	if Best() != -1 || Best(three, one) != 1 {
		t.Error("one by one")
	}
}

// P6.2: of many, wherever the best one stands; and the list is left as it is.
func TestBestOfMany(t *testing.T) {
	list := sorts()
	for i := range list {
		turned := slices.Concat(list[i:], list[:i])
		kept := slices.Clone(turned)
		if got, want := Best(turned...), slices.Index(turned, low); got != want {
			t.Fatalf("turned by %d: %d, not %d", i, got, want)
		}
		if !slices.Equal(turned, kept) {
			t.Fatal("the list has changed")
		}
	}
	twice := slices.Concat(list[1:], list, list)
	if got := Best(twice...); got != len(list)-1 {
		t.Error(got)
	}
}

// P6.2
func TestOwn(t *testing.T) {
	for _, id := range []uint64{0, 1, 0x8000020000000005, math.MaxUint64} {
		if v := Own(id); v != (api.Vector{Root: id, Cost: 0, Bridge: id, Port: 0}) {
			t.Errorf("%x: %+v", id, v)
		}
	}
}

// P6.3
func TestParts(t *testing.T) {
	for _, p := range []struct {
		id       uint64
		priority uint16
		m        api.MAC
	}{
		{0, 0, api.MAC{}},
		{5, 0, api.MAC{5: 5}},
		{0x8000020000000005, 0x8000, api.MAC{2, 0, 0, 0, 0, 5}},
		{0x1234a1b2c3d4e5f6, 0x1234, api.MAC{0xa1, 0xb2, 0xc3, 0xd4, 0xe5, 0xf6}},
		{0x0000ffffffffffff, 0, api.MAC{0xff, 0xff, 0xff, 0xff, 0xff, 0xff}},
		{0xffff000000000000, 0xffff, api.MAC{}},
		{math.MaxUint64, 0xffff, api.MAC{0xff, 0xff, 0xff, 0xff, 0xff, 0xff}},
	} {
		if got := Priority(p.id); got != p.priority {
			t.Errorf("%x: priority %x", p.id, got)
		}
		if got := Address(p.id); got != p.m {
			t.Errorf("%x: address %x", p.id, got)
		}
		if got := ID(p.priority, p.m); got != p.id {
			t.Errorf("%x %x: %x", p.priority, p.m, got)
		}
	}
}

// P6.3, P6.7: every bit has a place of its own.
func TestThereAndBack(t *testing.T) {
	for i := range 64 {
		for _, id := range []uint64{1 << i, ^(1 << i), 1<<i - 1, 1<<i | 0x8000020000000005} {
			priority, m := Priority(id), Address(id)
			if back := ID(priority, m); back != id {
				t.Errorf("%x: %x %x: %x", id, priority, m, back)
			}
			if want := binary.BigEndian.AppendUint64(nil, id); uint16(want[0])<<8|uint16(want[1]) != priority || !bytes.Equal(want[2:], m[:]) {
				t.Errorf("%x: %x %x", id, priority, m)
			}
		}
	}
	for priority := range 1 << 16 {
		m := api.MAC{byte(priority), 1, byte(priority >> 8), 2, byte(^priority), 3}
		id := ID(uint16(priority), m)
		if Priority(id) != uint16(priority) || Address(id) != m {
			t.Fatalf("%x %x: %x", priority, m, id)
		}
	}
}

// P6.3: all of them.
func TestNumber(t *testing.T) {
	for port := range 1 << 16 {
		if got := Number(uint16(port)); int(got) != port%4096 {
			t.Fatalf("%x: %x", port, got)
		}
	}
}

// P6.4: all times, with ages, which count for nothing.
func TestCheckT(t *testing.T) {
	good := map[api.Times]int{}
	for greatest := 6; greatest <= 40; greatest++ {
		for delay := max(4, (greatest+3)/2); delay <= 30; delay++ {
			good[api.Times{Max: uint8(greatest), Hello: 1, Delay: uint8(delay)}] = 1
			good[api.Times{Max: uint8(greatest), Hello: 2, Delay: uint8(delay)}] = 1
		}
	}
	for n := range 1 << 24 {
		times := api.Times{Max: uint8(n), Hello: uint8(n >> 8), Delay: uint8(n >> 16)}
		want := api.ErrVector
		if times.Hello < 4 && good[times] == 1 { // most are not worth asking the map
			want = api.OK
		}
		times.Age = uint8(n >> 3)
		if got := CheckT(times); got != want {
			t.Fatalf("%+v: %d, not %d", times, got, want)
		}
	}
}

// P6.4: the edges by name.
func TestCheckTEdges(t *testing.T) {
	for _, c := range []struct {
		t    api.Times
		want api.Errno
	}{
		{api.Times{Max: 20, Hello: 2, Delay: 15}, api.OK},
		{api.Times{Age: 255, Max: 20, Hello: 2, Delay: 15}, api.OK},
		{api.Times{Max: 6, Hello: 1, Delay: 4}, api.OK},
		{api.Times{Max: 6, Hello: 2, Delay: 4}, api.OK},
		{api.Times{Max: 40, Hello: 1, Delay: 30}, api.OK},
		{api.Times{Max: 40, Hello: 2, Delay: 21}, api.OK},
		{api.Times{Max: 40, Hello: 2, Delay: 20}, api.ErrVector},
		{api.Times{Max: 7, Hello: 1, Delay: 4}, api.ErrVector},
		{api.Times{Max: 5, Hello: 1, Delay: 15}, api.ErrVector},
		{api.Times{Max: 41, Hello: 1, Delay: 30}, api.ErrVector},
		{api.Times{Max: 20, Hello: 0, Delay: 15}, api.ErrVector},
		{api.Times{Max: 20, Hello: 3, Delay: 15}, api.ErrVector},
		{api.Times{Max: 6, Hello: 1, Delay: 3}, api.ErrVector},
		{api.Times{Max: 20, Hello: 1, Delay: 31}, api.ErrVector},
		{api.Times{Max: 20, Hello: 2, Delay: 0}, api.ErrVector},
		{api.Times{Max: 20, Hello: 255, Delay: 15}, api.ErrVector},
		{api.Times{}, api.ErrVector},
		{api.Times{Age: 255, Max: 255, Hello: 255, Delay: 255}, api.ErrVector},
	} {
		if got := CheckT(c.t); got != c.want {
			t.Errorf("%+v: %d, not %d", c.t, got, c.want)
		}
	}
}

// P6.4: all ages; the other times are kept, whether they may be or not.
func TestOlder(t *testing.T) {
	for age := range 256 {
		for _, times := range []api.Times{{}, {Max: 20, Hello: 2, Delay: 15}, {Max: 255, Hello: 255, Delay: 255}} {
			want := times
			want.Age = uint8(min(age+1, 255))
			times.Age = uint8(age)
			if got := Older(times); got != want {
				t.Errorf("%+v: %+v", times, got)
			}
		}
	}
}
