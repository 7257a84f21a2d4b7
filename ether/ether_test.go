package ether

import (
	"bytes"
	"math"
	"math/rand"
	"testing"

	"pontage/api"
)

var (
	everybody = api.MAC{0xff, 0xff, 0xff, 0xff, 0xff, 0xff}
	left      = api.MAC{0x02, 0x00, 0x00, 0x00, 0x00, 0x01}
	right     = api.MAC{0x12, 0x34, 0x56, 0x78, 0x9a, 0xbc}
	reserved  = api.MAC{0x01, 0x80, 0xc2, 0x00, 0x00, 0x00}
	service   = api.MAC{0x01, 0x1e, 0x83, 0x00, 0x13, 0x88}
	group     = api.MAC{0x01, 0x00, 0x5e, 0x00, 0x00, 0x01}
)

const (
	leftBytes  = "\x02\x00\x00\x00\x00\x01"
	rightBytes = "\x12\x34\x56\x78\x9a\xbc"
)

func plain(rest ...byte) api.Frame {
	return api.Frame{DA: right, SA: left, Rest: rest}
}

func tagged(s api.Tag, rest ...byte) api.Frame {
	return api.Frame{DA: right, SA: left, Tagged: true, S: s, Rest: rest}
}

// long is so many bytes, which are no tag's and not all the same.
func long(n int) []byte {
	b := make([]byte, n)
	for i := range b {
		b[i] = byte(i*7 + 3)
	}
	return b
}

func with(f api.Frame, change func(f *api.Frame)) api.Frame {
	f.Rest = bytes.Clone(f.Rest)
	change(&f)
	return f
}

// pair is a frame that may be, and its bytes.
type pair struct {
	f    api.Frame
	want string
}

func pairs() []pair {
	to := func(da, sa api.MAC) api.Frame { return api.Frame{DA: da, SA: sa, Rest: []byte{8, 0}} }
	list := []pair{
		{api.Frame{DA: everybody, SA: left, Tagged: true, S: api.Tag{PCP: 3, VID: 100}, Rest: []byte{8, 0, 0x45}},
			"\xff\xff\xff\xff\xff\xff" + leftBytes + "\x88\xa8\x60\x64\x08\x00\x45"},
		{plain(8, 0, 0x45), rightBytes + leftBytes + "\x08\x00\x45"},
		{plain(8, 0), rightBytes + leftBytes + "\x08\x00"},
		{plain(0, 0), rightBytes + leftBytes + "\x00\x00"},
		{plain(0x88, 0xa7), rightBytes + leftBytes + "\x88\xa7"},
		{plain(0x89, 0xa8), rightBytes + leftBytes + "\x89\xa8"},
		{plain(0xa8, 0x88), rightBytes + leftBytes + "\xa8\x88"},
		{plain(0x88, 0xe7), rightBytes + leftBytes + "\x88\xe7"},
		{plain(0x81, 0x00, 0x88, 0xa8), rightBytes + leftBytes + "\x81\x00\x88\xa8"},
		{tagged(api.Tag{VID: 1}, 0, 0), rightBytes + leftBytes + "\x88\xa8\x00\x01\x00\x00"},
		{tagged(api.Tag{PCP: 7, DEI: true, VID: api.MaxVID}, 8, 6, 1), rightBytes + leftBytes + "\x88\xa8\xff\xfe\x08\x06\x01"},
		{tagged(api.Tag{VID: 5}, 0x88, 0xa8), rightBytes + leftBytes + "\x88\xa8\x00\x05\x88\xa8"},
		{tagged(api.Tag{VID: 5}, 0x88, 0xa8, 0, 6, 8, 0), rightBytes + leftBytes + "\x88\xa8\x00\x05\x88\xa8\x00\x06\x08\x00"},
		{plain(long(api.MaxRest)...), rightBytes + leftBytes + string(long(api.MaxRest))},
		{tagged(api.Tag{VID: 5}, long(api.MaxRest)...), rightBytes + leftBytes + "\x88\xa8\x00\x05" + string(long(api.MaxRest))},
		{to(left, left), leftBytes + leftBytes + "\x08\x00"},
		{to(left, api.MAC{5: 1}), leftBytes + "\x00\x00\x00\x00\x00\x01" + "\x08\x00"},
		{to(api.MAC{5: 1}, left), "\x00\x00\x00\x00\x00\x01" + leftBytes + "\x08\x00"},
		{to(left, api.MAC{0xfe, 0xff, 0xff, 0xff, 0xff, 0xff}), leftBytes + "\xfe\xff\xff\xff\xff\xff" + "\x08\x00"},
	}
	for _, da := range []api.MAC{reserved, service, group, {1}} {
		list = append(list, pair{to(da, right), string(da[:]) + rightBytes + "\x08\x00"})
	}
	return list
}

// wrongFrames may not be, but are not too long: each has one fault, the last some more.
func wrongFrames() []api.Frame {
	good := tagged(api.Tag{PCP: 1, VID: 9}, 8, 0, 1)
	list := []api.Frame{
		{},
		plain(), plain(8), tagged(api.Tag{VID: 1}), tagged(api.Tag{VID: 1}, 8),
		plain(0x88, 0xa8), plain(0x88, 0xa8, 0), plain(0x88, 0xa8, 0, 1, 8, 0), plain(append([]byte{0x88, 0xa8}, long(api.MaxRest-2)...)...),
		with(good, func(f *api.Frame) { f.Tagged = false }),
		with(good, func(f *api.Frame) { f.DA = api.MAC{} }),
		with(plain(8, 0), func(f *api.Frame) { f.DA = api.MAC{} }),
	}
	for _, sa := range []api.MAC{{}, everybody, reserved, service, group, {1}} {
		list = append(list, with(good, func(f *api.Frame) { f.SA = sa }))
		list = append(list, with(plain(8, 0), func(f *api.Frame) { f.SA = sa }))
	}
	for _, s := range []api.Tag{{}, {PCP: 8, VID: 1}, {PCP: -1, VID: 1}, {VID: -1}, {VID: api.MaxVID + 1}, {VID: 4096}, {VID: 4097}, {VID: 1<<32 + 1}, {PCP: math.MinInt, VID: math.MaxInt}, {PCP: 7, DEI: true}} {
		list = append(list, tagged(s, 8, 0))
	}
	for _, s := range []api.Tag{{PCP: 1}, {DEI: true}, {VID: 1}, {PCP: -1}, {VID: -1}, {VID: math.MaxInt}} {
		list = append(list, with(plain(8, 0), func(f *api.Frame) { f.S = s }))
	}
	return append(list, api.Frame{Tagged: true}, api.Frame{S: api.Tag{VID: 3}, Rest: []byte{0x88, 0xa8}})
}

// longFrames are too long, and each but the first two has another fault, which must not be told.
func longFrames() []api.Frame {
	rest := long(api.MaxRest + 1)
	return []api.Frame{
		plain(rest...),
		tagged(api.Tag{VID: 1}, rest...),
		plain(append([]byte{0x88, 0xa8}, rest...)...),
		tagged(api.Tag{}, rest...),
		{Rest: rest},
		{DA: left, Rest: rest},
		{SA: left, Rest: long(5000)},
		{DA: left, SA: everybody, Tagged: true, S: api.Tag{PCP: 9}, Rest: rest},
		{DA: left, SA: left, S: api.Tag{VID: 1}, Rest: rest},
	}
}

func isZero(f api.Frame) bool {
	return f.DA == api.MAC{} && f.SA == api.MAC{} && !f.Tagged && f.S == api.Tag{} && len(f.Rest) == 0
}

// equal is told without the package's own Same.
func equal(a, b api.Frame) bool {
	return a.DA == b.DA && a.SA == b.SA && a.Tagged == b.Tagged && a.S == b.S && string(a.Rest) == string(b.Rest)
}

// P3.1
func TestEncode(t *testing.T) {
	for _, p := range pairs() {
		if e := Check(p.f); e != api.OK {
			t.Errorf("Check(%v) = %d", p.f, e)
		}
		if b, e := Encode(p.f); string(b) != p.want || e != api.OK {
			t.Errorf("Encode(%v) = % x, %d, not % x", p.f, b, e, p.want)
		}
	}
}

// P3.1
func TestEncodeRefuses(t *testing.T) {
	refuse := func(list []api.Frame, want api.Errno) {
		for _, f := range list {
			if e := Check(f); e != want {
				t.Errorf("Check(%v) = %d, not %d", f, e, want)
			}
			if b, e := Encode(f); len(b) != 0 || e != want {
				t.Errorf("Encode(%v) = % x, %d, not %d", f, b, e, want)
			}
		}
	}
	refuse(wrongFrames(), api.ErrFrame)
	refuse(longFrames(), api.ErrLong)
}

// P3.2
func TestDecode(t *testing.T) {
	for _, p := range pairs() {
		if f, e := Decode([]byte(p.want)); !equal(f, p.f) || e != api.OK {
			t.Errorf("Decode(% x) = %v, %d, not %v", p.want, f, e, p.f)
		}
	}
}

// P3.2
func TestDecodeRefuses(t *testing.T) {
	const (
		ends   = rightBytes + leftBytes
		nobody = "\x00\x00\x00\x00\x00\x00"
		stag   = "\x88\xa8"
	)
	most := string(long(api.MaxRest))
	cases := []struct {
		in string
		e  api.Errno
	}{
		{"", api.ErrShort},
		{"\x12", api.ErrShort},
		{rightBytes, api.ErrShort},
		{ends, api.ErrShort},
		{ends + "\x08", api.ErrShort},
		{ends + "\x88", api.ErrShort},
		{ends + stag, api.ErrShort},
		{ends + stag + "\x00", api.ErrShort},
		{ends + stag + "\x00\x01", api.ErrShort},
		{ends + stag + "\x00\x01\x08", api.ErrShort},
		{nobody + nobody + stag + "\x00\x00\x08", api.ErrShort},
		{nobody + nobody + "\x08", api.ErrShort},

		{ends + most + "\x01", api.ErrLong},
		{ends + stag + "\x00\x01" + most + "\x01", api.ErrLong},
		{ends + stag + "\x00\x00" + most + "\x01", api.ErrLong},
		{ends + stag + "\xff\xff" + most + most, api.ErrLong},
		{nobody + nobody + most + "\x01", api.ErrLong},
		{rightBytes + nobody + stag + "\x00\x01" + most + "\x01", api.ErrLong},

		{ends + stag + "\x00\x00\x08\x00", api.ErrFrame},
		{ends + stag + "\xf0\x00\x08\x00", api.ErrFrame},
		{ends + stag + "\x0f\xff\x08\x00", api.ErrFrame},
		{ends + stag + "\xff\xff" + most, api.ErrFrame},
		{nobody + leftBytes + "\x08\x00", api.ErrFrame},
		{nobody + leftBytes + stag + "\x00\x01\x08\x00", api.ErrFrame},
		{rightBytes + nobody + "\x08\x00", api.ErrFrame},
		{rightBytes + nobody + stag + "\x00\x01\x08\x00", api.ErrFrame},
		{leftBytes + "\xff\xff\xff\xff\xff\xff" + "\x08\x00", api.ErrFrame},
		{leftBytes + "\x01\x80\xc2\x00\x00\x00" + "\x08\x00", api.ErrFrame},
		{leftBytes + "\x01\x1e\x83\x00\x13\x88" + "\x08\x00", api.ErrFrame},
		{leftBytes + "\x01\x00\x00\x00\x00\x00" + most, api.ErrFrame},
	}
	for _, c := range cases {
		if f, e := Decode([]byte(c.in)); !isZero(f) || e != c.e {
			t.Errorf("Decode(% x) = %v, %d, not %d", c.in, f, e, c.e)
		}
	}
	if f, e := Decode(nil); !isZero(f) || e != api.ErrShort {
		t.Errorf("Decode(nil) = %v, %d", f, e)
	}
}

// P3.2: at every length, with a tag and without one.
func TestDecodeLengths(t *testing.T) {
	for _, head := range []string{rightBytes + leftBytes, rightBytes + leftBytes + "\x88\xa8\x00\x05"} {
		b := append([]byte(head), long(api.MaxRest+20)...)
		for size := range len(b) + 1 {
			want := api.OK
			if size < len(head)+api.MinRest {
				want = api.ErrShort
			} else if size > len(head)+api.MaxRest {
				want = api.ErrLong
			}
			f, e := Decode(b[:size])
			if e != want {
				t.Fatalf("%d bytes behind % x: %d, not %d", size-len(head), head, e, want)
			}
			if e == api.OK && (!bytes.Equal(f.Rest, b[len(head):size]) || f.Tagged != (len(head) == 16)) {
				t.Fatalf("%d bytes behind % x: %v", size-len(head), head, f)
			}
		}
	}
}

// P3.3
func TestSame(t *testing.T) {
	base := tagged(api.Tag{PCP: 1, VID: 9}, 8, 0, 1)
	others := []api.Frame{
		{},
		with(base, func(f *api.Frame) { f.DA[5]++ }),
		with(base, func(f *api.Frame) { f.SA[0]++ }),
		with(base, func(f *api.Frame) { f.DA, f.SA = f.SA, f.DA }),
		with(base, func(f *api.Frame) { f.Tagged = false }),
		with(base, func(f *api.Frame) { f.S.PCP = 2 }),
		with(base, func(f *api.Frame) { f.S.DEI = true }),
		with(base, func(f *api.Frame) { f.S.VID = 10 }),
		with(base, func(f *api.Frame) { f.S.VID += 4096 }),
		with(base, func(f *api.Frame) { f.Rest[0] = 9 }),
		with(base, func(f *api.Frame) { f.Rest[2] = 2 }),
		with(base, func(f *api.Frame) { f.Rest = f.Rest[:2] }),
		with(base, func(f *api.Frame) { f.Rest = append(f.Rest, 0) }),
		with(base, func(f *api.Frame) { f.Rest = nil }),
		{Rest: []byte{0}},
		{Rest: long(api.MaxRest + 9)},
	}
	all := append([]api.Frame{base}, others...)
	for i, a := range all {
		for j, b := range all {
			b.Rest = bytes.Clone(b.Rest)
			if Same(a, b) != (i == j) {
				t.Errorf("Same(%v, %v) = %v", a, b, i != j)
			}
		}
	}
	if !Same(api.Frame{}, api.Frame{Rest: []byte{}}) {
		t.Error("no rest and an empty one differ")
	}
}

// P3.3
func TestRetag(t *testing.T) {
	cases := []struct {
		f    api.Frame
		vid  int
		want api.Tag
	}{
		{tagged(api.Tag{PCP: 3, VID: 100}, 8, 0, 0x45), 5, api.Tag{PCP: 3, VID: 5}},
		{tagged(api.Tag{PCP: 7, DEI: true, VID: 1}, 8, 0), 1, api.Tag{PCP: 7, DEI: true, VID: 1}},
		{tagged(api.Tag{DEI: true, VID: api.MaxVID}, 8, 0), 1, api.Tag{DEI: true, VID: 1}},
		{tagged(api.Tag{VID: 1}, long(api.MaxRest)...), api.MaxVID, api.Tag{VID: api.MaxVID}},
	}
	for _, c := range cases {
		want := c.f
		want.S = c.want
		if f, e := Retag(c.f, c.vid); !equal(f, want) || e != api.OK {
			t.Errorf("Retag(%v, %d) = %v, %d", c.f, c.vid, f, e)
		}
	}
}

// P3.3
func TestRetagRefuses(t *testing.T) {
	refuse := func(f api.Frame, vid int, want api.Errno) {
		t.Helper()
		if got, e := Retag(f, vid); !isZero(got) || e != want {
			t.Errorf("Retag(%v, %d) = %v, %d, not %d", f, vid, got, e, want)
		}
	}
	wrong := []int{0, -1, api.MaxVID + 1, 4096, 4097, 1<<32 + 1, math.MaxInt, math.MinInt}
	for _, vid := range append(wrong, 5) {
		for _, f := range longFrames() {
			refuse(f, vid, api.ErrLong)
		}
		for _, f := range wrongFrames() {
			refuse(f, vid, api.ErrFrame)
		}
		refuse(plain(8, 0), vid, api.ErrFrame)
	}
	for _, vid := range wrong {
		refuse(tagged(api.Tag{PCP: 3, VID: 100}, 8, 0), vid, api.ErrArg)
	}
}

// P3.3
func TestType(t *testing.T) {
	cases := []struct {
		rest []byte
		want int
	}{
		{nil, 0}, {[]byte{}, 0}, {[]byte{8}, 0}, {[]byte{0xff}, 0},
		{[]byte{8, 0}, 0x0800}, {[]byte{8, 6, 1}, 0x0806}, {[]byte{0, 1}, 1}, {[]byte{1, 0}, 256},
		{[]byte{0x88, 0xa8}, api.EtherS}, {[]byte{0x88, 0xe7, 1, 2, 3}, api.EtherI}, {[]byte{0xff, 0xff, 9}, 65535},
		{append([]byte{0x12, 0x34}, long(3000)...), 0x1234},
	}
	for _, c := range cases {
		for _, f := range []api.Frame{plain(c.rest...), tagged(api.Tag{VID: 7}, c.rest...), {Rest: c.rest}} {
			if n := Type(f); n != c.want {
				t.Errorf("Type(% x) = %x, not %x", c.rest, n, c.want)
			}
		}
	}
}

// P3.4: with all tags that may be.
func TestThereAndBackTags(t *testing.T) {
	for high := range 16 {
		for vid := 1; vid <= api.MaxVID; vid++ {
			f := tagged(api.Tag{PCP: high >> 1, DEI: high&1 == 1, VID: vid}, 8, 0, byte(vid))
			b, e := Encode(f)
			if e != api.OK {
				t.Fatalf("Encode(%v): %d", f, e)
			}
			if got, e := Decode(b); !equal(got, f) || e != api.OK {
				t.Fatalf("Decode(% x) = %v, %d, not %v", b, got, e, f)
			}
		}
	}
}

// P3.4: with all that the two bytes of a tag, or of a type, may hold; what is decoded, encoded, is what it was.
func TestThereAndBackBytes(t *testing.T) {
	for _, in := range []string{rightBytes + leftBytes + "\x88\xa8..\x08\x00\x45", rightBytes + leftBytes + "..\x08\x00\x45\x46\x47"} {
		b := []byte(in)
		at := bytes.IndexByte(b, '.')
		for n := range 1 << 16 {
			b[at], b[at+1] = byte(n>>8), byte(n)
			vid := n % 4096
			if at == 12 && n == api.EtherS {
				vid = 0x800 // what stands behind the type is a tag then
			}
			f, e := Decode(b)
			if at == 14 && (vid == 0 || vid == 4095) {
				if e != api.ErrFrame || !isZero(f) {
					t.Fatalf("Decode(% x) = %v, %d", b, f, e)
				}
				continue
			}
			if e != api.OK || Check(f) != api.OK || f.Tagged != (at == 14 || n == api.EtherS) || f.Tagged && f.S.VID != vid {
				t.Fatalf("Decode(% x) = %v, %d", b, f, e)
			}
			if back, e := Encode(f); !bytes.Equal(back, b) || e != api.OK {
				t.Fatalf("Encode(%v) = % x, %d, not % x", f, back, e, b)
			}
		}
	}
}

// P3.4: whatever the bytes, they are refused, or come back as they were.
func TestThereAndBackAnyBytes(t *testing.T) {
	chance := rand.New(rand.NewSource(3))
	decoded := 0
	for range 200000 {
		b := make([]byte, chance.Intn(40))
		chance.Read(b)
		if len(b) > 13 && chance.Intn(2) == 0 {
			b[12], b[13] = 0x88, 0xa8
		}
		f, e := Decode(b)
		if e != api.OK {
			if !isZero(f) {
				t.Fatalf("Decode(% x) = %v beside %d", b, f, e)
			}
			continue
		}
		decoded++
		if back, e := Encode(f); !bytes.Equal(back, b) || e != api.OK {
			t.Fatalf("Encode(%v) = % x, %d, not % x", f, back, e, b)
		}
	}
	if decoded < 1000 {
		t.Errorf("only %d were frames", decoded)
	}
}

// P3.5
func TestRetagged(t *testing.T) {
	for _, p := range pairs() {
		if !p.f.Tagged {
			continue
		}
		for _, vid := range []int{1, 2, 255, 256, 0x555, 0xaaa, api.MaxVID} {
			f, e := Retag(p.f, vid)
			if e != api.OK {
				t.Fatalf("Retag(%v, %d): %d", p.f, vid, e)
			}
			b, _ := Encode(f)
			if string(b[:14]) != p.want[:14] || string(b[16:]) != p.want[16:] || b[14]>>4 != p.want[14]>>4 {
				t.Errorf("% x is % x in VLAN %d", p.want, b, vid)
			}
			if int(b[14]&15)<<8|int(b[15]) != vid {
				t.Errorf("% x is not in VLAN %d", b, vid)
			}
			if back, e := Retag(f, p.f.S.VID); !equal(back, p.f) || e != api.OK {
				t.Errorf("%v, in VLAN %d and back, is %v, %d", p.f, vid, back, e)
			}
		}
	}
}

// spoil writes over bytes, and over what stands behind them as far as they reach.
func spoil(b []byte) {
	b = b[:cap(b)]
	for i := range b {
		b[i] ^= 0xff
	}
}

// P3.6: what is told stays as it is, whatever becomes of what was handed in, and the other way round.
func TestOwn(t *testing.T) {
	for _, p := range pairs() {
		in := []byte(p.want)
		f, _ := Decode(in)
		twin, _ := Decode(in)
		spoil(twin.Rest)
		if string(in) != p.want || !equal(f, p.f) {
			t.Fatalf("what is decoded shares memory: % x", p.want)
		}
		spoil(in)
		if !equal(f, p.f) {
			t.Fatalf("what is decoded is kept in what was handed in: % x", p.want)
		}
		b, _ := Encode(f)
		other, _ := Encode(f)
		spoil(other)
		if string(b) != p.want || !equal(f, p.f) {
			t.Fatalf("what is encoded shares memory: %v", p.f)
		}
		spoil(f.Rest)
		if string(b) != p.want {
			t.Fatalf("what is encoded is kept in what was handed in: %v", p.f)
		}
	}
}

// P3.6
func TestOwnRetagged(t *testing.T) {
	f := tagged(api.Tag{VID: 9}, append(make([]byte, 0, 64), 8, 0, 1)...)
	want := tagged(api.Tag{VID: 10}, 8, 0, 1)
	got, _ := Retag(f, 10)
	twin, _ := Retag(f, 10)
	spoil(twin.Rest)
	if !equal(f, tagged(api.Tag{VID: 9}, 8, 0, 1)) || !equal(got, want) {
		t.Error("what is retagged shares memory")
	}
	spoil(f.Rest)
	if !equal(got, want) {
		t.Error("what is retagged is kept in what was handed in")
	}
}

// P3.6: nothing that is handed in is changed, where there is room behind it neither.
func TestHandedIn(t *testing.T) {
	room := append(long(40), 1, 2, 3, 4)
	copy(room, rightBytes+leftBytes+"\x88\xa8\x00\x05\x08\x00")
	before := bytes.Clone(room)
	Decode(room[:20])
	f := tagged(api.Tag{VID: 5}, room[16:20]...)
	f.Rest = room[16:20]
	Check(f)
	Encode(f)
	Retag(f, 6)
	Type(f)
	Same(f, f)
	if !bytes.Equal(room, before) {
		t.Error("what was handed in has changed")
	}
}
