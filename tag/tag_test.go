package tag

import (
	"bytes"
	"math"
	"testing"

	"pontage/api"
)

var (
	left  = api.MAC{0x12, 0x34, 0x56, 0x78, 0x9a, 0xbc}
	right = api.MAC{0xde, 0xf0, 0x0f, 0xed, 0xcb, 0xa9}
)

// wrongTags may not be: each is one past an edge of one field, or far off, with all the others good.
func wrongTags() []api.Tag {
	return []api.Tag{
		{}, {PCP: 5, DEI: true}, {VID: -1}, {VID: api.MaxVID + 1}, {VID: 4096}, {VID: 4097}, {VID: 8193},
		{VID: math.MaxInt}, {VID: math.MinInt}, {VID: 1<<32 + 1},
		{PCP: -1, VID: 1}, {PCP: 8, VID: 1}, {PCP: 8, DEI: true, VID: 100}, {PCP: 16, VID: 1}, {PCP: 1 << 32, VID: 1},
		{PCP: math.MaxInt, VID: 1}, {PCP: math.MinInt, VID: 1}, {PCP: -1}, {PCP: 8, VID: 4095},
	}
}

func wrongITags() []api.ITag {
	return []api.ITag{
		{PCP: -1}, {PCP: 8}, {PCP: 8, DEI: true, UCA: true, ISID: 300}, {PCP: 1 << 32},
		{PCP: math.MaxInt, ISID: 1}, {PCP: math.MinInt, ISID: 1},
		{ISID: -1}, {ISID: api.MaxISID + 1}, {ISID: api.MaxISID + 2}, {ISID: 1 << 32},
		{ISID: math.MaxInt}, {ISID: math.MinInt}, {PCP: 8, ISID: -1},
		{PCP: 7, ISID: api.MaxISID + 1, DA: left, SA: right},
	}
}

// someITags may be: all priorities and flags, with the edges of the number and of its bytes.
func someITags() []api.ITag {
	var list []api.ITag
	for high := range 32 {
		for _, isid := range []int{0, 1, 2, 255, 256, 300, 0x8000, 0xffff, 0x10000, 0x123456, 0x800000, api.MaxISID - 1, api.MaxISID} {
			t := api.ITag{PCP: high >> 2, DEI: high&2 != 0, UCA: high&1 != 0, ISID: isid, DA: left, SA: right}
			list = append(list, t)
		}
	}
	return append(list, api.ITag{}, api.ITag{DA: right, SA: left}, api.ITag{DA: api.MAC{1}}, api.ITag{SA: api.MAC{5: 1}})
}

func same(t *testing.T, what string, got, want []byte) {
	t.Helper()
	if !bytes.Equal(got, want) {
		t.Errorf("%s: % x, not % x", what, got, want)
	}
}

// P2.1
func TestPut(t *testing.T) {
	cases := []struct {
		t    api.Tag
		want string
	}{
		{api.Tag{PCP: 5, DEI: true, VID: 100}, "\xb0\x64"},
		{api.Tag{VID: 1}, "\x00\x01"},
		{api.Tag{DEI: true, VID: 1}, "\x10\x01"},
		{api.Tag{PCP: 1, VID: 1}, "\x20\x01"},
		{api.Tag{PCP: 4, VID: 1}, "\x80\x01"},
		{api.Tag{PCP: 7, VID: 1}, "\xe0\x01"},
		{api.Tag{VID: 256}, "\x01\x00"},
		{api.Tag{VID: 2048}, "\x08\x00"},
		{api.Tag{PCP: 2, VID: 0x123}, "\x41\x23"},
		{api.Tag{VID: api.MaxVID}, "\x0f\xfe"},
		{api.Tag{PCP: 7, DEI: true, VID: api.MaxVID}, "\xff\xfe"},
	}
	for _, c := range cases {
		if e := Check(c.t); e != api.OK {
			t.Errorf("Check(%v) = %d", c.t, e)
		}
		b, e := Put(c.t)
		if string(b) != c.want || e != api.OK {
			t.Errorf("Put(%v) = % x, %d, not % x", c.t, b, e, c.want)
		}
	}
}

// P2.1
func TestPutRefuses(t *testing.T) {
	for _, x := range wrongTags() {
		if e := Check(x); e != api.ErrTag {
			t.Errorf("Check(%v) = %d", x, e)
		}
		if b, e := Put(x); len(b) != 0 || e != api.ErrTag {
			t.Errorf("Put(%v) = % x, %d", x, b, e)
		}
	}
}

// P2.1
func TestPutI(t *testing.T) {
	const addresses = "\x12\x34\x56\x78\x9a\xbc\xde\xf0\x0f\xed\xcb\xa9"
	const none = "\x00\x00\x00\x00\x00\x00\x00\x00\x00\x00\x00\x00"
	cases := []struct {
		t    api.ITag
		want string
	}{
		{api.ITag{}, "\x00\x00\x00\x00" + none},
		{api.ITag{PCP: 3, UCA: true, ISID: 300, DA: left, SA: right}, "\x68\x00\x01\x2c" + addresses},
		{api.ITag{PCP: 1}, "\x20\x00\x00\x00" + none},
		{api.ITag{PCP: 4}, "\x80\x00\x00\x00" + none},
		{api.ITag{DEI: true}, "\x10\x00\x00\x00" + none},
		{api.ITag{UCA: true}, "\x08\x00\x00\x00" + none},
		{api.ITag{ISID: 0x123456}, "\x00\x12\x34\x56" + none},
		{api.ITag{ISID: api.MaxISID}, "\x00\xff\xff\xff" + none},
		{api.ITag{PCP: 7, DEI: true, UCA: true, ISID: api.MaxISID, DA: left, SA: right}, "\xf8\xff\xff\xff" + addresses},
	}
	for _, c := range cases {
		if e := CheckI(c.t); e != api.OK {
			t.Errorf("CheckI(%v) = %d", c.t, e)
		}
		b, e := PutI(c.t)
		if string(b) != c.want || e != api.OK {
			t.Errorf("PutI(%v) = % x, %d, not % x", c.t, b, e, c.want)
		}
	}
}

// P2.1
func TestPutIRefuses(t *testing.T) {
	for _, x := range wrongITags() {
		if e := CheckI(x); e != api.ErrTag {
			t.Errorf("CheckI(%v) = %d", x, e)
		}
		if b, e := PutI(x); len(b) != 0 || e != api.ErrTag {
			t.Errorf("PutI(%v) = % x, %d", x, b, e)
		}
	}
}

// P2.2
func TestTake(t *testing.T) {
	cases := []struct {
		in   string
		want api.Tag
		rest string
		e    api.Errno
	}{
		{"\xb0\x64", api.Tag{PCP: 5, DEI: true, VID: 100}, "", api.OK},
		{"\xb0\x64\x09", api.Tag{PCP: 5, DEI: true, VID: 100}, "\x09", api.OK},
		{"\x00\x01\x00\x00\x00", api.Tag{VID: 1}, "\x00\x00\x00", api.OK},
		{"\xff\xfe\xff\xff", api.Tag{PCP: 7, DEI: true, VID: api.MaxVID}, "\xff\xff", api.OK},
		{"", api.Tag{}, "", api.ErrShort},
		{"\xb0", api.Tag{}, "", api.ErrShort},
		{"\x00", api.Tag{}, "", api.ErrShort},
		{"\xff", api.Tag{}, "", api.ErrShort},
		{"\x00\x00", api.Tag{}, "", api.ErrTag},
		{"\xf0\x00\x01", api.Tag{}, "", api.ErrTag},
		{"\x0f\xff", api.Tag{}, "", api.ErrTag},
		{"\xff\xff\x00\x01", api.Tag{}, "", api.ErrTag},
	}
	for _, c := range cases {
		got, rest, e := Take([]byte(c.in))
		if got != c.want || string(rest) != c.rest || e != c.e {
			t.Errorf("Take(% x) = %v, % x, %d", c.in, got, rest, e)
		}
	}
	if got, rest, e := Take(nil); got != (api.Tag{}) || len(rest) != 0 || e != api.ErrShort {
		t.Errorf("Take(nil) = %v, % x, %d", got, rest, e)
	}
}

// P2.2
func TestTakeI(t *testing.T) {
	const behind = "\x12\x34\x56\x78\x9a\xbc\xde\xf0\x0f\xed\xcb\xa9"
	cases := []struct {
		in   string
		want api.ITag
		rest string
	}{
		{"\x68\x00\x01\x2c" + behind, api.ITag{PCP: 3, UCA: true, ISID: 300, DA: left, SA: right}, ""},
		{"\x70\x12\x34\x56" + behind + "\x01\x02", api.ITag{PCP: 3, DEI: true, ISID: 0x123456, DA: left, SA: right}, "\x01\x02"},
		{"\xf8\xff\xff\xff" + behind + "\xff", api.ITag{PCP: 7, DEI: true, UCA: true, ISID: api.MaxISID, DA: left, SA: right}, "\xff"},
		{"\x00\x00\x00\x00" + behind, api.ITag{DA: left, SA: right}, ""},
	}
	for _, c := range cases {
		got, rest, e := TakeI([]byte(c.in))
		if got != c.want || string(rest) != c.rest || e != api.OK {
			t.Errorf("TakeI(% x) = %v, % x, %d", c.in, got, rest, e)
		}
	}
}

// P2.2: each of the bits that must be 0 is looked at, and only where there are bytes enough.
func TestTakeIRefuses(t *testing.T) {
	for first := range 256 {
		in := append([]byte{byte(first), 1, 2, 3}, make([]byte, 30)...)
		for size := range len(in) + 1 {
			want := api.OK
			if size < 16 {
				want = api.ErrShort
			} else if first&7 != 0 {
				want = api.ErrTag
			}
			got, rest, e := TakeI(in[:size])
			if e != want {
				t.Fatalf("TakeI(% x): %d, not %d", in[:size], e, want)
			}
			if e != api.OK && (got != api.ITag{} || len(rest) != 0) {
				t.Fatalf("TakeI(% x) = %v, % x beside %d", in[:size], got, rest, e)
			}
		}
	}
}

// P2.3
func TestPutType(t *testing.T) {
	one, two := []byte{1}, []byte{2, 3}
	cases := []struct {
		n     int
		parts [][]byte
		want  string
		e     api.Errno
	}{
		{0x88a8, nil, "\x88\xa8", api.OK},
		{0x88a8, [][]byte{}, "\x88\xa8", api.OK},
		{0x88a8, [][]byte{nil}, "\x88\xa8", api.OK},
		{0x88e7, [][]byte{one}, "\x88\xe7\x01", api.OK},
		{0x88e7, [][]byte{one, two}, "\x88\xe7\x01\x02\x03", api.OK},
		{0x0800, [][]byte{two, nil, one, {}, two}, "\x08\x00\x02\x03\x01\x02\x03", api.OK},
		{0, [][]byte{one}, "\x00\x00\x01", api.OK},
		{1, nil, "\x00\x01", api.OK},
		{65535, [][]byte{one}, "\xff\xff\x01", api.OK},
		{65536, [][]byte{one}, "", api.ErrArg},
		{65537, nil, "", api.ErrArg},
		{-1, [][]byte{one}, "", api.ErrArg},
		{math.MaxInt, nil, "", api.ErrArg},
		{math.MinInt, nil, "", api.ErrArg},
	}
	for _, c := range cases {
		b, e := PutType(c.n, c.parts...)
		if string(b) != c.want || e != c.e {
			t.Errorf("PutType(%d, %v) = % x, %d", c.n, c.parts, b, e)
		}
	}
	b, e := PutType(5, one, two, one)
	if string(b) != "\x00\x05\x01\x02\x03\x01" || e != api.OK {
		t.Errorf("% x, %d", b, e)
	}
}

// P2.3
func TestTakeType(t *testing.T) {
	cases := []struct {
		in   string
		want int
		rest string
		e    api.Errno
	}{
		{"\x88\xa8", 0x88a8, "", api.OK},
		{"\x88\xe7\x01\x02", 0x88e7, "\x01\x02", api.OK},
		{"\x00\x00\x00", 0, "\x00", api.OK},
		{"\xff\xff\xff", 65535, "\xff", api.OK},
		{"", 0, "", api.ErrShort},
		{"\x88", 0, "", api.ErrShort},
	}
	for _, c := range cases {
		n, rest, e := TakeType([]byte(c.in))
		if n != c.want || string(rest) != c.rest || e != c.e {
			t.Errorf("TakeType(% x) = %x, % x, %d", c.in, n, rest, e)
		}
	}
	if n, rest, e := TakeType(nil); n != 0 || len(rest) != 0 || e != api.ErrShort {
		t.Errorf("TakeType(nil) = %x, % x, %d", n, rest, e)
	}
}

// P2.4
func TestCarried(t *testing.T) {
	from := []api.Tag{{PCP: 2, VID: 5}, {PCP: 7, DEI: true, VID: 1}, {VID: api.MaxVID}}
	for _, x := range from {
		for _, vid := range []int{1, 2, 5, 100, api.MaxVID - 1, api.MaxVID} {
			want := api.Tag{PCP: x.PCP, DEI: x.DEI, VID: vid}
			if got, e := Carried(x, vid); got != want || e != api.OK {
				t.Errorf("Carried(%v, %d) = %v, %d", x, vid, got, e)
			}
		}
		for _, vid := range []int{0, -1, api.MaxVID + 1, 4096, 4097, math.MaxInt, math.MinInt} {
			if got, e := Carried(x, vid); got != (api.Tag{}) || e != api.ErrTag {
				t.Errorf("Carried(%v, %d) = %v, %d", x, vid, got, e)
			}
		}
	}
	for _, x := range wrongTags() {
		for _, vid := range []int{0, 1, 9, api.MaxVID} {
			if got, e := Carried(x, vid); got != (api.Tag{}) || e != api.ErrTag {
				t.Errorf("Carried(%v, %d) = %v, %d", x, vid, got, e)
			}
		}
	}
}

// P2.5: each tag that may be, put and taken.
func TestTagsThereAndBack(t *testing.T) {
	rests := [][]byte{nil, {0}, {255}, {0x0f, 0xff}, {1, 2, 3, 4}}
	for pcp := range 8 {
		for _, dei := range []bool{false, true} {
			for vid := 1; vid <= api.MaxVID; vid++ {
				x := api.Tag{PCP: pcp, DEI: dei, VID: vid}
				b, e := Put(x)
				if e != api.OK || len(b) != 2 {
					t.Fatalf("Put(%v) = % x, %d", x, b, e)
				}
				behind := rests[vid%len(rests)]
				got, rest, e := Take(append(b, behind...))
				if got != x || !bytes.Equal(rest, behind) || e != api.OK {
					t.Fatalf("Take of %v and % x: %v, % x, %d", x, behind, got, rest, e)
				}
			}
		}
	}
}

// P2.5: all that two bytes may be, taken and put.
func TestBytesThereAndBack(t *testing.T) {
	for n := range 1 << 16 {
		in := []byte{byte(n >> 8), byte(n), 7, 8, 9}
		x, rest, e := Take(in)
		if vid := n & 0xfff; vid == 0 || vid == 0xfff {
			if e != api.ErrTag {
				t.Fatalf("Take(% x): %d", in, e)
			}
		} else {
			b, again := Put(x)
			if e != api.OK || again != api.OK || !bytes.Equal(append(b, rest...), in) {
				t.Fatalf("Take(% x) = %v, % x, %d; put: % x, %d", in, x, rest, e, b, again)
			}
		}
		number, rest, e := TakeType(in)
		b, again := PutType(number, rest)
		if e != api.OK || again != api.OK || number != n || !bytes.Equal(b, in) {
			t.Fatalf("TakeType(% x) = %x, % x, %d; put: % x, %d", in, number, rest, e, b, again)
		}
	}
}

// P2.5
func TestServicesThereAndBack(t *testing.T) {
	for _, x := range someITags() {
		for _, behind := range [][]byte{nil, {0}, {255, 255}, make([]byte, 20), bytes.Repeat([]byte{255}, 1600)} {
			b, e := PutI(x)
			if e != api.OK || len(b) != 16 {
				t.Fatalf("PutI(%v) = % x, %d", x, b, e)
			}
			in := append(b, behind...)
			got, rest, e := TakeI(in)
			if got != x || !bytes.Equal(rest, behind) || e != api.OK {
				t.Fatalf("TakeI(% x) = %v, % x, %d", in, got, rest, e)
			}
			again, _ := PutI(got)
			if !bytes.Equal(append(again, rest...), in) {
				t.Fatalf("% x taken and put is % x", in, again)
			}
		}
	}
}

// P2.6: what is taken stays, whatever becomes of the bytes, and they stay whatever becomes of it.
func TestTakenIsOwn(t *testing.T) {
	takes := map[string]func(b []byte) []byte{
		"Take":     func(b []byte) []byte { _, rest, _ := Take(b); return rest },
		"TakeI":    func(b []byte) []byte { _, rest, _ := TakeI(b); return rest },
		"TakeType": func(b []byte) []byte { _, rest, _ := TakeType(b); return rest },
	}
	for name, take := range takes {
		in := append(bytes.Repeat([]byte{0x10}, 20), make([]byte, 20)...)
		before := bytes.Clone(in)
		rest := take(in[:20])
		if len(rest) == 0 {
			t.Fatalf("%s: nothing stands behind", name)
		}
		same(t, name+" changes its bytes", in, before)
		other := take(in[:20])
		kept := bytes.Clone(other)
		for i := range rest {
			rest[i] ^= 255
		}
		_ = append(rest, 1, 2, 3)
		same(t, name+"'s rest is the bytes' own", in, before)
		same(t, name+"'s rest is another answer's", other, kept)
		clear(in)
		same(t, name+"'s rest changes with the bytes", other, kept)
	}
}

// P2.6: parts stay, and what was put of them too.
func TestPutIsOwn(t *testing.T) {
	part := make([]byte, 3, 10)
	copy(part, "abc")
	b, _ := PutType(1, part)
	both, _ := PutType(1, part, part)
	for i := range b {
		b[i] = 255
	}
	same(t, "a part", part[:10], []byte("abc\x00\x00\x00\x00\x00\x00\x00"))
	same(t, "another answer", both, []byte("\x00\x01abcabc"))
	clear(part)
	same(t, "an answer behind a part's change", both, []byte("\x00\x01abcabc"))

	x := api.Tag{PCP: 5, DEI: true, VID: 100}
	one, _ := Put(x)
	two, _ := Put(x)
	clear(one)
	same(t, "a tag's bytes", two, []byte{0xb0, 0x64})

	i := api.ITag{PCP: 3, UCA: true, ISID: 300, DA: left, SA: right}
	one, _ = PutI(i)
	two, _ = PutI(i)
	want := bytes.Clone(two)
	clear(one)
	same(t, "a service's tag's bytes", two, want)
}
