package pbb

import (
	"bytes"
	"math"
	"math/rand"
	"slices"
	"testing"

	"pontage/api"
)

var (
	nobody    = api.MAC{}
	everybody = api.MAC{0xff, 0xff, 0xff, 0xff, 0xff, 0xff}
	reserved  = api.MAC{0x01, 0x80, 0xc2, 0x00, 0x00, 0x0f}
	service   = api.MAC{0x01, 0x1e, 0x83, 0x00, 0x13, 0x88}
	group     = api.MAC{0x01, 0x00, 0x5e, 0x00, 0x00, 0x01}

	near   = api.MAC{0x02, 0x00, 0x00, 0x00, 0x01, 0x01} // a bridge
	far    = api.MAC{0x12, 0x34, 0x56, 0x78, 0x9a, 0xbc} // another one
	sender = api.MAC{0x02, 0x00, 0x00, 0x00, 0x00, 0x08} // a customer
	hearer = api.MAC{0xfe, 0xdc, 0xba, 0x98, 0x76, 0x54} // another one
)

const (
	nobodyBytes = "\x00\x00\x00\x00\x00\x00"
	nearBytes   = "\x02\x00\x00\x00\x01\x01"
	farBytes    = "\x12\x34\x56\x78\x9a\xbc"
	senderBytes = "\x02\x00\x00\x00\x00\x08"
	hearerBytes = "\xfe\xdc\xba\x98\x76\x54"
	groupBytes  = "\x01\x1e\x83\x00\x13\x88"

	ends  = farBytes + nearBytes
	inner = hearerBytes + senderBytes
)

// long is so many bytes, which are no tag's and not all the same.
func long(n int) []byte {
	b := make([]byte, n)
	for i := range b {
		b[i] = byte(i*7 + 3)
	}
	return b
}

func backbone(rest ...byte) api.BFrame {
	return api.BFrame{
		DA:   far,
		SA:   near,
		B:    api.Tag{PCP: 5, DEI: true, VID: 10},
		I:    api.ITag{PCP: 3, UCA: true, ISID: 5000, DA: hearer, SA: sender},
		Rest: rest,
	}
}

func with(b api.BFrame, change func(b *api.BFrame)) api.BFrame {
	b.Rest = bytes.Clone(b.Rest)
	change(&b)
	return b
}

func tagged(s api.Tag, rest ...byte) api.Frame {
	return api.Frame{DA: hearer, SA: sender, Tagged: true, S: s, Rest: rest}
}

// pair is a backbone frame that may be, and its bytes.
type pair struct {
	b    api.BFrame
	want string
}

func pairs() []pair {
	plain := backbone(8, 0, 0x45)
	list := []pair{
		{plain, ends + "\x88\xa8\xb0\x0a" + "\x88\xe7\x68\x00\x13\x88" + inner + "\x08\x00\x45"},
		{backbone(0, 0), ends + "\x88\xa8\xb0\x0a" + "\x88\xe7\x68\x00\x13\x88" + inner + "\x00\x00"},
		{backbone(0x88, 0xe7), ends + "\x88\xa8\xb0\x0a" + "\x88\xe7\x68\x00\x13\x88" + inner + "\x88\xe7"},
		{backbone(0x88, 0xa7), ends + "\x88\xa8\xb0\x0a" + "\x88\xe7\x68\x00\x13\x88" + inner + "\x88\xa7"},
		{backbone(8, 0, 0x88, 0xa8), ends + "\x88\xa8\xb0\x0a" + "\x88\xe7\x68\x00\x13\x88" + inner + "\x08\x00\x88\xa8"},
		{backbone(long(api.MaxRest)...), ends + "\x88\xa8\xb0\x0a" + "\x88\xe7\x68\x00\x13\x88" + inner + string(long(api.MaxRest))},
		{with(plain, func(b *api.BFrame) {
			b.B, b.I.PCP, b.I.UCA, b.I.ISID = api.Tag{VID: 1}, 0, false, 1
		}), ends + "\x88\xa8\x00\x01" + "\x88\xe7\x00\x00\x00\x01" + inner + "\x08\x00\x45"},
		{with(plain, func(b *api.BFrame) {
			b.B, b.I.PCP, b.I.DEI, b.I.ISID = api.Tag{PCP: 7, DEI: true, VID: api.MaxVID}, 7, true, api.MaxISID
		}), ends + "\x88\xa8\xff\xfe" + "\x88\xe7\xf8\xff\xff\xff" + inner + "\x08\x00\x45"},
		{with(plain, func(b *api.BFrame) { b.DA = service }),
			groupBytes + nearBytes + "\x88\xa8\xb0\x0a" + "\x88\xe7\x68\x00\x13\x88" + inner + "\x08\x00\x45"},
		{with(plain, func(b *api.BFrame) { b.DA, b.I.DA = b.SA, b.I.SA }),
			nearBytes + nearBytes + "\x88\xa8\xb0\x0a" + "\x88\xe7\x68\x00\x13\x88" + senderBytes + senderBytes + "\x08\x00\x45"},
	}
	for _, m := range []api.MAC{everybody, reserved, service, group, {1}, {5: 1}} {
		list = append(list,
			pair{with(plain, func(b *api.BFrame) { b.DA = m }),
				string(m[:]) + nearBytes + "\x88\xa8\xb0\x0a" + "\x88\xe7\x68\x00\x13\x88" + inner + "\x08\x00\x45"},
			pair{with(plain, func(b *api.BFrame) { b.I.DA = m }),
				ends + "\x88\xa8\xb0\x0a" + "\x88\xe7\x68\x00\x13\x88" + string(m[:]) + senderBytes + "\x08\x00\x45"})
	}
	return list
}

// wrongFrames may not be, but are not too long: each but the first and the last has one fault.
func wrongFrames() []api.BFrame {
	good := backbone(8, 0, 0x45)
	list := []api.BFrame{
		{},
		backbone(), backbone(8), backbone(0x88),
		backbone(0x88, 0xa8), backbone(0x88, 0xa8, 0), backbone(0x88, 0xa8, 0, 1, 8, 0),
		backbone(append([]byte{0x88, 0xa8}, long(api.MaxRest-2)...)...),
		with(good, func(b *api.BFrame) { b.DA = nobody }),
		with(good, func(b *api.BFrame) { b.I.DA = nobody }),
	}
	for _, m := range []api.MAC{nobody, everybody, reserved, service, group, {1}} {
		list = append(list,
			with(good, func(b *api.BFrame) { b.SA = m }),
			with(good, func(b *api.BFrame) { b.I.SA = m }))
	}
	for _, n := range []int{-1, 8, 16, 1<<32 + 1, math.MinInt, math.MaxInt} {
		list = append(list,
			with(good, func(b *api.BFrame) { b.B.PCP = n }),
			with(good, func(b *api.BFrame) { b.I.PCP = n }))
	}
	for _, n := range wrongVIDs() {
		list = append(list, with(good, func(b *api.BFrame) { b.B.VID = n }))
	}
	for _, n := range wrongISIDs() {
		list = append(list, with(good, func(b *api.BFrame) { b.I.ISID = n }))
	}
	return append(list, api.BFrame{B: api.Tag{PCP: -1}, I: api.ITag{ISID: -1}, Rest: []byte{0x88, 0xa8}})
}

func wrongVIDs() []int {
	return []int{0, -1, api.MaxVID + 1, 4096, 4097, 1<<32 + 1, math.MinInt, math.MaxInt}
}

func wrongISIDs() []int {
	return []int{0, -1, api.MaxISID + 1, api.MaxISID + 2, 1<<32 + 1, math.MinInt, math.MaxInt}
}

// longFrames are too long, and each but the first has another fault, which must not be told.
func longFrames() []api.BFrame {
	much := backbone(long(api.MaxRest + 1)...)
	return []api.BFrame{
		much,
		with(much, func(b *api.BFrame) { b.DA = nobody }),
		with(much, func(b *api.BFrame) { b.SA = everybody }),
		with(much, func(b *api.BFrame) { b.B.VID = 0 }),
		with(much, func(b *api.BFrame) { b.I.PCP = 8 }),
		with(much, func(b *api.BFrame) { b.I.ISID = 0 }),
		with(much, func(b *api.BFrame) { b.I.DA = nobody }),
		with(much, func(b *api.BFrame) { b.I.SA = group }),
		with(much, func(b *api.BFrame) { b.Rest[0], b.Rest[1] = 0x88, 0xa8 }),
		{Rest: long(5000)},
	}
}

// equal is told without the package's own Same.
func equal(a, b api.BFrame) bool {
	return a.DA == b.DA && a.SA == b.SA && a.B == b.B && a.I == b.I && string(a.Rest) == string(b.Rest)
}

func isZero(b api.BFrame) bool {
	return equal(b, api.BFrame{})
}

func equalFrames(a, b api.Frame) bool {
	return a.DA == b.DA && a.SA == b.SA && a.Tagged == b.Tagged && a.S == b.S && string(a.Rest) == string(b.Rest)
}

func isZeroFrame(f api.Frame) bool {
	return equalFrames(f, api.Frame{})
}

// P4.1
func TestEncode(t *testing.T) {
	for _, p := range pairs() {
		if e := Check(p.b); e != api.OK {
			t.Errorf("Check(%v) = %d", p.b, e)
		}
		if b, e := Encode(p.b); string(b) != p.want || e != api.OK {
			t.Errorf("Encode(%v) = % x, %d, not % x", p.b, b, e, p.want)
		}
	}
}

// P4.1
func TestEncodeRefuses(t *testing.T) {
	refuse := func(list []api.BFrame, want api.Errno) {
		for _, f := range list {
			if e := Check(f); e != want {
				t.Errorf("Check(%v) = %d, not %d", f, e, want)
			}
			if b, e := Encode(f); len(b) != 0 || e != want {
				t.Errorf("Encode(%v) = % x, %d, not %d", f, b, e, want)
			}
		}
	}
	refuse(wrongFrames(), api.ErrPBB)
	refuse(longFrames(), api.ErrLong)
}

// P4.1: of frames that may be and of frames that may not.
func TestInside(t *testing.T) {
	all := slices.Concat(wrongFrames(), longFrames())
	for _, p := range pairs() {
		all = append(all, p.b)
	}
	for _, b := range all {
		want := api.Frame{DA: b.I.DA, SA: b.I.SA, Rest: bytes.Clone(b.Rest)}
		if f := Inside(b); !equalFrames(f, want) {
			t.Errorf("Inside(%v) = %v", b, f)
		}
	}
}

// P4.2
func TestDecode(t *testing.T) {
	for _, p := range pairs() {
		if b, e := Decode([]byte(p.want)); !equal(b, p.b) || e != api.OK {
			t.Errorf("Decode(% x) = %v, %d, not %v", p.want, b, e, p.b)
		}
	}
}

// P4.2
func TestDecodeRefuses(t *testing.T) {
	const (
		vlan  = "\x88\xa8\xb0\x0a"
		isid  = "\x88\xe7\x68\x00\x13\x88"
		small = "\x08\x00"
		zeros = nobodyBytes + nobodyBytes + nobodyBytes + nobodyBytes + nobodyBytes
	)
	most := string(long(api.MaxRest))
	cases := []struct {
		in string
		e  api.Errno
	}{
		{"", api.ErrShort},
		{ends, api.ErrShort},
		{ends + vlan + isid, api.ErrShort},
		{ends + vlan + isid + inner, api.ErrShort},
		{ends + vlan + isid + inner + "\x08", api.ErrShort},
		{zeros + "\x00\x00\x00\x00\x00", api.ErrShort},

		{ends + vlan + isid + inner + most + "\x01", api.ErrLong},
		{zeros + most + "\x01\x02\x03\x04\x05", api.ErrLong},
		{most + most, api.ErrLong},

		{zeros + nobodyBytes, api.ErrPBB},
		{nobodyBytes + nearBytes + vlan + isid + inner + small, api.ErrPBB},
		{farBytes + nobodyBytes + vlan + isid + inner + small, api.ErrPBB},
		{farBytes + groupBytes + vlan + isid + inner + small, api.ErrPBB},
		{farBytes + "\xff\xff\xff\xff\xff\xff" + vlan + isid + inner + small, api.ErrPBB},
		{ends + "\x88\xa9\xb0\x0a" + isid + inner + small, api.ErrPBB},
		{ends + "\x81\x00\xb0\x0a" + isid + inner + small, api.ErrPBB},
		{ends + "\x88\xe7\xb0\x0a" + isid + inner + small, api.ErrPBB},
		{ends + isid + vlan + inner + small, api.ErrPBB},
		{ends + "\x88\xa8\xb0\x00" + isid + inner + small, api.ErrPBB},
		{ends + "\x88\xa8\xbf\xff" + isid + inner + small, api.ErrPBB},
		{ends + vlan + "\x88\xe6\x68\x00\x13\x88" + inner + small, api.ErrPBB},
		{ends + vlan + "\x88\xa8\x68\x00\x13\x88" + inner + small, api.ErrPBB},
		{ends + vlan + "\x88\xe7\x68\x00\x00\x00" + inner + small, api.ErrPBB},
		{ends + vlan + "\x88\xe7\x69\x00\x13\x88" + inner + small, api.ErrPBB},
		{ends + vlan + "\x88\xe7\x6a\x00\x13\x88" + inner + small, api.ErrPBB},
		{ends + vlan + "\x88\xe7\x6c\x00\x13\x88" + inner + small, api.ErrPBB},
		{ends + vlan + isid + nobodyBytes + senderBytes + small, api.ErrPBB},
		{ends + vlan + isid + hearerBytes + nobodyBytes + small, api.ErrPBB},
		{ends + vlan + isid + hearerBytes + groupBytes + small, api.ErrPBB},
		{ends + vlan + isid + inner + "\x88\xa8", api.ErrPBB},
		{ends + vlan + isid + inner + "\x88\xa8\x00\x01" + small, api.ErrPBB},
		{zeros + "\x00\x00\x00\x00" + most, api.ErrPBB},
	}
	for _, c := range cases {
		if b, e := Decode([]byte(c.in)); !isZero(b) || e != c.e {
			t.Errorf("Decode(% x) = %v, %d, not %d", c.in, b, e, c.e)
		}
	}
	if b, e := Decode(nil); !isZero(b) || e != api.ErrShort {
		t.Errorf("Decode(nil) = %v, %d", b, e)
	}
}

// P4.2: at every length, of a frame that may be and of one that may not.
func TestDecodeLengths(t *testing.T) {
	for _, vid := range []int{0, 10} {
		in := append([]byte(pairs()[0].want[:34]), long(api.MaxRest+20)...)
		in[15] = byte(vid)
		for size := range len(in) + 1 {
			want := api.OK
			switch {
			case size < 36:
				want = api.ErrShort
			case size > 34+api.MaxRest:
				want = api.ErrLong
			case vid == 0:
				want = api.ErrPBB
			}
			b, e := Decode(in[:size])
			if e != want || e != api.OK && !isZero(b) {
				t.Fatalf("%d bytes in VLAN %d: %v, %d, not %d", size, vid, b, e, want)
			}
			if e == api.OK && !equal(b, backbone(in[34:size]...)) {
				t.Fatalf("%d bytes: %v", size, b)
			}
		}
	}
}

// P4.3
func TestSame(t *testing.T) {
	base := backbone(8, 0, 1)
	all := []api.BFrame{
		base,
		{},
		with(base, func(b *api.BFrame) { b.DA[5]++ }),
		with(base, func(b *api.BFrame) { b.SA[0]++ }),
		with(base, func(b *api.BFrame) { b.DA, b.SA = b.SA, b.DA }),
		with(base, func(b *api.BFrame) { b.B.PCP = 2 }),
		with(base, func(b *api.BFrame) { b.B.DEI = false }),
		with(base, func(b *api.BFrame) { b.B.VID = 11 }),
		with(base, func(b *api.BFrame) { b.B.VID += 4096 }),
		with(base, func(b *api.BFrame) { b.I.PCP = 2 }),
		with(base, func(b *api.BFrame) { b.I.DEI = true }),
		with(base, func(b *api.BFrame) { b.I.UCA = false }),
		with(base, func(b *api.BFrame) { b.I.ISID++ }),
		with(base, func(b *api.BFrame) { b.I.ISID += 1 << 24 }),
		with(base, func(b *api.BFrame) { b.I.DA[2]++ }),
		with(base, func(b *api.BFrame) { b.I.SA[5]++ }),
		with(base, func(b *api.BFrame) { b.I.DA, b.I.SA = b.I.SA, b.I.DA }),
		with(base, func(b *api.BFrame) { b.Rest[0] = 9 }),
		with(base, func(b *api.BFrame) { b.Rest[2] = 2 }),
		with(base, func(b *api.BFrame) { b.Rest = b.Rest[:2] }),
		with(base, func(b *api.BFrame) { b.Rest = append(b.Rest, 0) }),
		with(base, func(b *api.BFrame) { b.Rest = nil }),
		{Rest: []byte{0}},
		{Rest: long(api.MaxRest + 9)},
	}
	for i, a := range all {
		for j, b := range all {
			b.Rest = bytes.Clone(b.Rest)
			if Same(a, b) != (i == j) {
				t.Errorf("Same(%v, %v) = %v", a, b, i != j)
			}
		}
	}
	if !Same(api.BFrame{}, api.BFrame{Rest: []byte{}}) {
		t.Error("no rest and an empty one differ")
	}
}

// P4.3
func TestHide(t *testing.T) {
	cases := []struct {
		s         api.Tag
		isid, vid int
		to        api.MAC
		rest      []byte
	}{
		{api.Tag{PCP: 5, DEI: true, VID: 100}, 5000, 10, service, []byte{8, 0, 0x45}},
		{api.Tag{VID: 1}, 1, 1, far, []byte{0, 0}},
		{api.Tag{PCP: 7, VID: api.MaxVID}, api.MaxISID, api.MaxVID, near, long(api.MaxRest)},
		{api.Tag{DEI: true, VID: 2}, 256, 4093, everybody, []byte{0x88, 0xe7}},
		{api.Tag{PCP: 1, VID: 3}, 65536, 255, reserved, []byte{8, 0, 0x88, 0xa8}},
		{api.Tag{PCP: 4, VID: 4}, 77, 88, group, []byte{0x88, 0xa7}},
	}
	for _, c := range cases {
		want := api.BFrame{DA: c.to, SA: near, Rest: bytes.Clone(c.rest)}
		want.B = api.Tag{PCP: c.s.PCP, DEI: c.s.DEI, VID: c.vid}
		want.I = api.ITag{PCP: c.s.PCP, DEI: c.s.DEI, UCA: true, ISID: c.isid, DA: hearer, SA: sender}
		if b, e := Hide(tagged(c.s, c.rest...), c.isid, c.vid, near, c.to); !equal(b, want) || e != api.OK {
			t.Errorf("hidden in %d, %d: %v, %d, not %v", c.isid, c.vid, b, e, want)
		}
	}
}

// P4.3
func TestHideRefuses(t *testing.T) {
	refuse := func(f api.Frame, isid, vid int, own, to api.MAC, want api.Errno) {
		t.Helper()
		if b, e := Hide(f, isid, vid, own, to); !isZero(b) || e != want {
			t.Errorf("Hide(%v, %d, %d, %x, %x) = %v, %d, not %d", f, isid, vid, own, to, b, e, want)
		}
	}
	s := api.Tag{PCP: 5, VID: 100}
	good := tagged(s, 8, 0)

	// What is wrong with the customer's frame is told ahead of what is wrong with the backbone's.
	for _, isid := range []int{5000, 0} {
		refuse(tagged(s, long(api.MaxRest+1)...), isid, 10, near, far, api.ErrLong)
		refuse(tagged(api.Tag{}, long(api.MaxRest+1)...), isid, 10, near, far, api.ErrLong)
		refuse(api.Frame{DA: hearer, SA: sender, Rest: long(api.MaxRest + 1)}, isid, 10, near, far, api.ErrLong)
		refuse(api.Frame{}, isid, 10, near, far, api.ErrFrame)
		refuse(tagged(api.Tag{}, 8, 0), isid, 10, near, far, api.ErrFrame)
		refuse(tagged(api.Tag{PCP: 8, VID: 1}, 8, 0), isid, 10, near, far, api.ErrFrame)
		refuse(tagged(s), isid, 10, near, far, api.ErrFrame)
		refuse(tagged(s, 8), isid, 10, near, far, api.ErrFrame)
		refuse(api.Frame{DA: hearer, SA: group, Tagged: true, S: s, Rest: []byte{8, 0}}, isid, 10, near, far, api.ErrFrame)
		refuse(api.Frame{SA: sender, Tagged: true, S: s, Rest: []byte{8, 0}}, isid, 10, near, far, api.ErrFrame)
		refuse(api.Frame{DA: hearer, SA: sender, Rest: []byte{8, 0}}, isid, 10, near, far, api.ErrFrame)
		refuse(api.Frame{DA: hearer, SA: sender, S: s, Rest: []byte{8, 0}}, isid, 10, near, far, api.ErrFrame)
	}

	for _, isid := range wrongISIDs() {
		refuse(good, isid, 10, near, far, api.ErrPBB)
	}
	for _, vid := range wrongVIDs() {
		refuse(good, 5000, vid, near, far, api.ErrPBB)
	}
	for _, own := range []api.MAC{nobody, everybody, reserved, service, group} {
		refuse(good, 5000, 10, own, far, api.ErrPBB)
	}
	refuse(good, 5000, 10, near, nobody, api.ErrPBB)
	refuse(tagged(s, 0x88, 0xa8), 5000, 10, near, far, api.ErrPBB)
	refuse(tagged(s, 0x88, 0xa8, 0, 5, 8, 0), 5000, 10, near, far, api.ErrPBB)
}

// P4.3
func TestShow(t *testing.T) {
	for _, p := range pairs() {
		for _, vid := range []int{1, 7, 256, api.MaxVID} {
			want := api.Frame{DA: p.b.I.DA, SA: p.b.I.SA, Tagged: true, Rest: bytes.Clone(p.b.Rest)}
			want.S = api.Tag{PCP: p.b.I.PCP, DEI: p.b.I.DEI, VID: vid}
			if f, e := Show(p.b, vid); !equalFrames(f, want) || e != api.OK {
				t.Errorf("Show(%v, %d) = %v, %d, not %v", p.b, vid, f, e, want)
			}
		}
	}
}

// P4.3
func TestShowRefuses(t *testing.T) {
	refuse := func(list []api.BFrame, vid int, want api.Errno) {
		t.Helper()
		for _, b := range list {
			if f, e := Show(b, vid); !isZeroFrame(f) || e != want {
				t.Errorf("Show(%v, %d) = %v, %d, not %d", b, vid, f, e, want)
			}
		}
	}
	for _, vid := range append(wrongVIDs(), 7) {
		refuse(longFrames(), vid, api.ErrLong)
		refuse(wrongFrames(), vid, api.ErrPBB)
	}
	for _, vid := range wrongVIDs() {
		refuse([]api.BFrame{backbone(8, 0)}, vid, api.ErrArg)
	}
}

// thereAndBack encodes a frame that may be, and decodes it.
func thereAndBack(t *testing.T, b api.BFrame) {
	t.Helper()
	x, e := Encode(b)
	if e != api.OK {
		t.Fatalf("Encode(%v): %d", b, e)
	}
	if got, e := Decode(x); !equal(got, b) || e != api.OK {
		t.Fatalf("Decode(% x) = %v, %d, not %v", x, got, e, b)
	}
}

// P4.4: with all the backbone's tags that may be, and all bits of a service's.
func TestThereAndBackFrames(t *testing.T) {
	b := backbone(8, 0, 1)
	for high := range 16 {
		for vid := 1; vid <= api.MaxVID; vid++ {
			b.B = api.Tag{PCP: high >> 1, DEI: high&1 == 1, VID: vid}
			thereAndBack(t, b)
		}
	}
	for high := range 32 {
		for low := range 24 {
			b.I.PCP, b.I.DEI, b.I.UCA = high>>2, high&1 == 1, high&2 == 2
			b.I.ISID = 1 << low
			thereAndBack(t, b)
			b.I.ISID = api.MaxISID &^ b.I.ISID
			thereAndBack(t, b)
		}
	}
}

// P4.4: with all that two neighbouring bytes of the tags may hold, and of the first two of the rest.
func TestThereAndBackBytes(t *testing.T) {
	whole := []byte(pairs()[0].want)
	for _, at := range []int{12, 14, 16, 18, 20, 34} {
		decoded := 0
		for n := range 1 << 16 {
			in := bytes.Clone(whole)
			in[at], in[at+1] = byte(n>>8), byte(n)
			b, e := Decode(in)
			if e != api.OK {
				if e != api.ErrPBB || !isZero(b) {
					t.Fatalf("Decode(% x) = %v, %d", in, b, e)
				}
				continue
			}
			decoded++
			if back, e := Encode(b); !bytes.Equal(back, in) || e != api.OK {
				t.Fatalf("Encode(%v) = % x, %d, not % x", b, back, e, in)
			}
		}
		want := map[int]int{12: 1, 14: 16 * api.MaxVID, 16: 1, 18: 32 * 256, 20: 1<<16 - 1, 34: 1<<16 - 1}[at]
		if decoded != want {
			t.Errorf("%d of the bytes at %d are frames', not %d", decoded, at, want)
		}
	}
}

// P4.4: whatever the bytes, they are refused, or come back as they were.
func TestThereAndBackAnyBytes(t *testing.T) {
	chance := rand.New(rand.NewSource(4))
	decoded := 0
	for range 100000 {
		in := make([]byte, 30+chance.Intn(30))
		chance.Read(in)
		if len(in) > 18 && chance.Intn(4) != 0 {
			in[12], in[13], in[16], in[17] = 0x88, 0xa8, 0x88, 0xe7
			in[18] &= 0xf8
		}
		b, e := Decode(in)
		if e != api.OK {
			if !isZero(b) {
				t.Fatalf("Decode(% x) = %v beside %d", in, b, e)
			}
			continue
		}
		decoded++
		if back, e := Encode(b); !bytes.Equal(back, in) || e != api.OK {
			t.Fatalf("Encode(%v) = % x, %d, not % x", b, back, e, in)
		}
	}
	if decoded < 1000 {
		t.Errorf("only %d were frames", decoded)
	}
}

// P4.5
func TestHidden(t *testing.T) {
	rests := [][]byte{{8, 0}, {0x88, 0xe7, 1}, long(46), long(api.MaxRest)}
	for high := range 16 {
		for _, rest := range rests {
			f := tagged(api.Tag{PCP: high >> 1, DEI: high&1 == 1, VID: 100 + high}, rest...)
			b, e := Hide(f, 5000+high, 10, near, service)
			if e != api.OK {
				t.Fatalf("Hide(%v): %d", f, e)
			}
			x, _ := Encode(b)
			y, _ := Decode(x)
			for _, vid := range []int{1, 100, 0x555, 0xaaa, api.MaxVID} {
				want := f
				want.S.VID = vid
				if g, e := Show(b, vid); !equalFrames(g, want) || e != api.OK {
					t.Errorf("%v, hidden and shown, is %v, %d", want, g, e)
				}
				if g, e := Show(y, vid); !equalFrames(g, want) || e != api.OK {
					t.Errorf("%v, hidden, carried as bytes and shown, is %v, %d", want, g, e)
				}
			}
		}
	}
}

// Example 1
func TestExample(t *testing.T) {
	f := tagged(api.Tag{VID: 100}, append([]byte{8, 0}, long(44)...)...)
	b, _ := Hide(f, 5000, 10, near, service)
	if x, e := Encode(b); len(x) != 34+46 || e != api.OK {
		t.Errorf("%d bytes, %d", len(x), e)
	}
}

// spoil writes over bytes, and over what stands behind them as far as they reach.
func spoil(b []byte) {
	b = b[:cap(b)]
	for i := range b {
		b[i] ^= 0xff
	}
}

// P4.6: what is told stays as it is, whatever becomes of what was handed in, and the other way round.
func TestOwnBytes(t *testing.T) {
	for _, p := range pairs() {
		in := []byte(p.want)
		b, _ := Decode(in)
		twin, _ := Decode(in)
		spoil(twin.Rest)
		if string(in) != p.want || !equal(b, p.b) {
			t.Fatalf("what is decoded shares memory: % x", p.want)
		}
		spoil(in)
		if !equal(b, p.b) {
			t.Fatalf("what is decoded is kept in what was handed in: % x", p.want)
		}
		x, _ := Encode(b)
		other, _ := Encode(b)
		spoil(other)
		if string(x) != p.want || !equal(b, p.b) {
			t.Fatalf("what is encoded shares memory: %v", p.b)
		}
		spoil(b.Rest)
		if string(x) != p.want {
			t.Fatalf("what is encoded is kept in what was handed in: %v", p.b)
		}
	}
}

// P4.6
func TestOwnFrames(t *testing.T) {
	want := string([]byte{8, 0, 1})
	calls := map[string]func(rest []byte) []byte{
		"Inside": func(rest []byte) []byte { return Inside(backbone(rest...)).Rest },
		"Show": func(rest []byte) []byte {
			b := backbone()
			b.Rest = rest
			f, _ := Show(b, 7)
			return f.Rest
		},
		"Hide": func(rest []byte) []byte {
			f := tagged(api.Tag{VID: 9})
			f.Rest = rest
			b, _ := Hide(f, 5000, 10, near, far)
			return b.Rest
		},
	}
	for name, call := range calls {
		in := append(make([]byte, 0, 64), want...)
		got, twin := call(in), call(in)
		if string(got) != want {
			t.Errorf("%s tells % x", name, got)
		}
		spoil(twin)
		if string(in) != want || string(got) != want {
			t.Errorf("what %s tells shares memory", name)
		}
		spoil(in)
		if string(got) != want {
			t.Errorf("what %s tells is kept in what was handed in", name)
		}
	}
}

// P4.6: nothing that is handed in is changed, where there is room behind it neither.
func TestHandedIn(t *testing.T) {
	room := append([]byte(pairs()[0].want), long(40)...)
	before := bytes.Clone(room)
	Decode(room[:36])
	b := backbone()
	b.Rest = room[34:36]
	Check(b)
	Encode(b)
	Inside(b)
	Show(b, 6)
	Same(b, b)
	f := tagged(api.Tag{VID: 5})
	f.Rest = room[34:36]
	Hide(f, 5000, 10, near, far)
	if !bytes.Equal(room, before) {
		t.Error("what was handed in has changed")
	}
}
