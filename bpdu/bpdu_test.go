package bpdu

import (
	"bytes"
	"math"
	"slices"
	"testing"

	"pontage/api"
	"pontage/mac"
)

var (
	nobody    = api.MAC{}
	everybody = api.MAC{0xff, 0xff, 0xff, 0xff, 0xff, 0xff}
	bridges   = api.MAC{0x01, 0x80, 0xc2, 0x00, 0x00, 0x00}
	reserved  = api.MAC{0x01, 0x80, 0xc2, 0x00, 0x00, 0x0f}
	service   = api.MAC{0x01, 0x1e, 0x83, 0x00, 0x13, 0x88}
	group     = api.MAC{0x01, 0x00, 0x5e, 0x00, 0x00, 0x01}

	station = api.MAC{0x02, 0x00, 0x00, 0x00, 0x00, 0x01}
	other   = api.MAC{0xfe, 0xdc, 0xba, 0x98, 0x76, 0x54}

	ways  = api.Vector{Root: 0x0102030405060708, Cost: 0x11121314, Bridge: 0x2122232425262728, Port: 0x3132}
	times = api.Times{Age: 0x41, Max: 0x42, Hello: 0x43, Delay: 0x44}
)

const (
	waysBytes  = "\x01\x02\x03\x04\x05\x06\x07\x08\x11\x12\x13\x14\x21\x22\x23\x24\x25\x26\x27\x28\x31\x32"
	timesBytes = "\x41\x00\x42\x00\x43\x00\x44\x00"
	zeros      = "\x00\x00\x00\x00\x00\x00\x00\x00\x00\x00\x00\x00\x00\x00\x00\x00\x00\x00\x00\x00\x00\x00\x00\x00\x00\x00\x00\x00\x00\x00"
	most       = "\xff\xff\xff\xff\xff\xff\xff\xff\xff\xff\xff\xff\xff\xff\xff\xff\xff\xff\xff\xff\xff\xff\xff\x00\xff\x00\xff\x00\xff\x00"
)

// pair is a message that may be, and its bytes.
type pair struct {
	m    api.BPDU
	want string
}

func pairs() []pair {
	full := api.Vector{Root: math.MaxUint64, Cost: math.MaxUint32, Bridge: math.MaxUint64, Port: math.MaxUint16}
	late := api.Times{Age: 255, Max: 255, Hello: 255, Delay: 255}
	list := []pair{
		{api.BPDU{Kind: api.TCN}, "\x00\x00\x00\x80"},
		{api.BPDU{Kind: api.Config}, "\x00\x00\x00\x00\x00" + zeros},
		{api.BPDU{Kind: api.Config, TC: true}, "\x00\x00\x00\x00\x01" + zeros},
		{api.BPDU{Kind: api.Config, Ack: true}, "\x00\x00\x00\x00\x80" + zeros},
		{api.BPDU{Kind: api.Config, TC: true, Ack: true, V: ways, T: times}, "\x00\x00\x00\x00\x81" + waysBytes + timesBytes},
		{api.BPDU{Kind: api.Config, V: full, T: late}, "\x00\x00\x00\x00\x00" + most},
		{api.BPDU{Kind: api.RST}, "\x00\x00\x02\x02\x00" + zeros + "\x00"},
		{api.BPDU{Kind: api.RST, TC: true}, "\x00\x00\x02\x02\x01" + zeros + "\x00"},
		{api.BPDU{Kind: api.RST, Proposal: true}, "\x00\x00\x02\x02\x02" + zeros + "\x00"},
		{api.BPDU{Kind: api.RST, Role: api.Alternate}, "\x00\x00\x02\x02\x04" + zeros + "\x00"},
		{api.BPDU{Kind: api.RST, Role: api.Root}, "\x00\x00\x02\x02\x08" + zeros + "\x00"},
		{api.BPDU{Kind: api.RST, Role: api.Designated}, "\x00\x00\x02\x02\x0c" + zeros + "\x00"},
		{api.BPDU{Kind: api.RST, Learning: true}, "\x00\x00\x02\x02\x10" + zeros + "\x00"},
		{api.BPDU{Kind: api.RST, Forward: true}, "\x00\x00\x02\x02\x20" + zeros + "\x00"},
		{api.BPDU{Kind: api.RST, Agreement: true}, "\x00\x00\x02\x02\x40" + zeros + "\x00"},
		{api.BPDU{Kind: api.RST, V: ways, T: times}, "\x00\x00\x02\x02\x00" + waysBytes + timesBytes + "\x00"},
		{api.BPDU{Kind: api.RST, TC: true, Proposal: true, Role: api.Designated, Learning: true, Forward: true, Agreement: true, V: full, T: late},
			"\x00\x00\x02\x02\x7f" + most + "\x00"},
	}
	for i, v := range []api.Vector{{Root: 1}, {Cost: 1}, {Bridge: 1}, {Port: 1}} {
		b := []byte("\x00\x00\x00\x00\x00" + zeros)
		b[[...]int{12, 16, 24, 26}[i]] = 1
		list = append(list, pair{api.BPDU{Kind: api.Config, V: v}, string(b)})
	}
	return list
}

// may is the document's word, said again in another way.
func may(m api.BPDU) bool {
	left := m
	left.Kind = 0
	switch m.Kind {
	case api.TCN:
		return left == api.BPDU{}
	case api.Config:
		return left == api.BPDU{TC: m.TC, Ack: m.Ack, V: m.V, T: m.T}
	case api.RST:
		return !m.Ack && slices.Contains([]api.Role{0, 1, 3, 4}, m.Role)
	}
	return false
}

// allSorts is every kind and role, and some that are none, with all flags, and each number zero or not.
func allSorts(visit func(m api.BPDU)) {
	kinds := []api.MsgKind{0, 1, 2, 3, 4, 5, 128, -1, math.MinInt, math.MaxInt, 1<<32 + 1, 1<<32 + 2, 1<<32 + 3}
	roles := []api.Role{0, 1, 2, 3, 4, 5, 6, 7, 8, -1, -4, math.MinInt, math.MaxInt, 1 << 32, 1<<32 + 4, 256}
	vectors := []api.Vector{{}, {Root: 1}, {Root: 1 << 63}, {Cost: 1}, {Bridge: 1}, {Bridge: 1 << 63}, {Port: 1}, {Port: 1 << 15}, ways}
	clocks := []api.Times{{}, {Age: 1}, {Max: 1}, {Hello: 1}, {Delay: 1}, times}
	for _, k := range kinds {
		for _, r := range roles {
			for f := range 64 {
				for _, v := range vectors {
					for _, t := range clocks {
						visit(api.BPDU{Kind: k, TC: f&1 != 0, Ack: f&2 != 0, Proposal: f&4 != 0, Learning: f&8 != 0,
							Forward: f&16 != 0, Agreement: f&32 != 0, Role: r, V: v, T: t})
					}
				}
			}
		}
	}
}

// P5.1
func TestCheck(t *testing.T) {
	allSorts(func(m api.BPDU) {
		want := api.ErrBPDU
		if may(m) {
			want = api.OK
		}
		if e := Check(m); e != want {
			t.Fatalf("%+v: %v", m, e)
		}
	})
}

// P5.1
func TestBytes(t *testing.T) {
	for _, p := range pairs() {
		if b, e := Bytes(p.m); e != api.OK || string(b) != p.want {
			t.Errorf("%+v: %x %v, not %x", p.m, b, e, p.want)
		}
	}
}

// P5.1
func TestBytesOfNone(t *testing.T) {
	allSorts(func(m api.BPDU) {
		b, e := Bytes(m)
		if may(m) != (e == api.OK) || !may(m) && (b != nil || e != api.ErrBPDU) {
			t.Fatalf("%+v: %x %v", m, b, e)
		}
	})
}

// P5.1
func TestRead(t *testing.T) {
	for _, p := range pairs() {
		if m, e := Read([]byte(p.want)); e != api.OK || m != p.m {
			t.Errorf("%x: %+v %v, not %+v", p.want, m, e, p.m)
		}
	}
}

// P5.1
func TestReadShort(t *testing.T) {
	for _, s := range []string{"", "\x00", "\x00\x00", "\x00\x00\x00", "\x00\x00\x02", "\x01", "\xff\xff\xff"} {
		if m, e := Read([]byte(s)); e != api.ErrShort || m != (api.BPDU{}) {
			t.Errorf("%x: %+v %v", s, m, e)
		}
	}
	if m, e := Read(nil); e != api.ErrShort || m != (api.BPDU{}) {
		t.Errorf("nil: %+v %v", m, e)
	}
}

func refused(t *testing.T, b []byte) {
	t.Helper()
	if m, e := Read(b); e != api.ErrBPDU || m != (api.BPDU{}) {
		t.Errorf("%x: %+v %v", b, m, e)
	}
}

// P5.1: all of the bytes are the message's, not only the first ones.
func TestReadOtherLengths(t *testing.T) {
	for _, p := range pairs() {
		for n := 4; n < len(p.want); n++ {
			refused(t, []byte(p.want)[:n])
		}
		for _, more := range []string{"\x00", "\x01", "\x00\x00", zeros, p.want} {
			refused(t, []byte(p.want+more))
		}
	}
	refused(t, make([]byte, 4))
	refused(t, make([]byte, 34))
	refused(t, make([]byte, 36))
	refused(t, make([]byte, 70000))
}

// P5.1: each kind's head with each kind's length, and all other versions and types.
func TestReadOtherHeads(t *testing.T) {
	lengths := map[int]int{0x0080: 4, 0x0000: 35, 0x0202: 36}
	for _, n := range []int{4, 5, 34, 35, 36, 37} {
		for head := range 1 << 16 {
			b := make([]byte, n)
			b[2], b[3] = byte(head>>8), byte(head)
			if want, known := lengths[head]; known && want == n {
				if _, e := Read(b); e != api.OK {
					t.Errorf("%x: %v", b, e)
				}
				continue
			}
			refused(t, b)
		}
	}
}

// tells is whether a byte at a place of a message that may be can be that one too, the others kept.
func tells(k api.MsgKind, at int, value, old byte) bool {
	switch {
	case value == old:
		return true
	case k == api.TCN || at < 4:
		return false
	case at == 4 && k == api.Config:
		return value&^0x81 == 0
	case at == 4:
		return value < 128
	case at < 27:
		return true
	case at < 35:
		return at%2 == 1
	}
	return false
}

// P5.1, P5.4: each byte of each message with each other value.
func TestReadEachByte(t *testing.T) {
	for _, p := range pairs() {
		for at := range len(p.want) {
			for value := range 256 {
				b := []byte(p.want)
				old := b[at]
				b[at] = byte(value)
				if !tells(p.m.Kind, at, byte(value), old) {
					refused(t, b)
					continue
				}
				m, e := Read(b)
				if e != api.OK || !may(m) || m.Kind != p.m.Kind || m == p.m != (byte(value) == old) {
					t.Fatalf("%x: %+v %v", b, m, e)
				}
				if again, e := Bytes(m); e != api.OK || !bytes.Equal(again, b) {
					t.Fatalf("%x: %x %v", b, again, e)
				}
			}
		}
	}
}

// P5.1: all flags of an RST, of which the highest may not be.
func TestReadFlags(t *testing.T) {
	told := []api.Role{api.Disabled, api.Alternate, api.Root, api.Designated}
	for f := range 128 {
		b := append([]byte{0, 0, 2, 2, byte(f)}, zeros+"\x00"...)
		want := api.BPDU{Kind: api.RST, TC: f&1 != 0, Proposal: f&2 != 0, Role: told[f>>2&3],
			Learning: f&16 != 0, Forward: f&32 != 0, Agreement: f&64 != 0}
		if m, e := Read(b); e != api.OK || m != want {
			t.Errorf("%x: %+v %v", f, m, e)
		}
		b[4] |= 128
		refused(t, b)
	}
}

func frameOf(src api.MAC, message string) string {
	return "\x01\x80\xc2\x00\x00\x00" + string(src[:]) + string([]byte{0, byte(len(message) + 3)}) + "\x42\x42\x03" + message
}

// P5.2: and the document's example.
func TestEncode(t *testing.T) {
	example := "\x01\x80\xc2\x00\x00\x00\x02\x00\x00\x00\x00\x01\x00\x07\x42\x42\x03\x00\x00\x00\x80"
	if b, e := Encode(station, api.BPDU{Kind: api.TCN}); e != api.OK || string(b) != example {
		t.Errorf("%x %v", b, e)
	}
	for _, src := range []api.MAC{station, other, {5: 1}, {0: 2}, {0, 1}, {0xfe, 0xff, 0xff, 0xff, 0xff, 0xff}} {
		for _, p := range pairs() {
			if b, e := Encode(src, p.m); e != api.OK || string(b) != frameOf(src, p.want) {
				t.Errorf("%+v: %x %v, not %x", p.m, b, e, frameOf(src, p.want))
			}
		}
	}
}

func notSingle() []api.MAC {
	return []api.MAC{nobody, everybody, bridges, reserved, service, group, {1}, {3, 0, 0, 0, 0, 1}}
}

// P5.2: a wrong station is told ahead of a wrong message.
func TestEncodeNone(t *testing.T) {
	good, bad := api.BPDU{Kind: api.TCN}, api.BPDU{Kind: api.TCN, TC: true}
	for _, src := range notSingle() {
		for _, m := range []api.BPDU{good, bad, {}} {
			if b, e := Encode(src, m); b != nil || e != api.ErrArg {
				t.Errorf("%x %+v: %x %v", src, m, b, e)
			}
		}
	}
	for _, m := range []api.BPDU{bad, {}, {Kind: 4}, {Kind: api.RST, Role: api.Backup}, {Kind: api.Config, Proposal: true}} {
		if b, e := Encode(station, m); b != nil || e != api.ErrBPDU {
			t.Errorf("%+v: %x %v", m, b, e)
		}
	}
}

// P5.2
func TestDecode(t *testing.T) {
	for _, src := range []api.MAC{station, other, {5: 1}, {0: 2}} {
		for _, p := range pairs() {
			if from, m, e := Decode([]byte(frameOf(src, p.want))); e != api.OK || from != src || m != p.m {
				t.Errorf("%x: %x %+v %v", frameOf(src, p.want), from, m, e)
			}
		}
	}
}

func notDecoded(t *testing.T, b []byte, want api.Errno) {
	t.Helper()
	if src, m, e := Decode(b); e != want || src != nobody || m != (api.BPDU{}) {
		t.Errorf("%x: %x %+v %v, not %v", b, src, m, e, want)
	}
}

// P5.2: what is short is told ahead of all else.
func TestDecodeShort(t *testing.T) {
	for _, p := range pairs() {
		for n := range 21 {
			notDecoded(t, []byte(frameOf(station, p.want))[:n], api.ErrShort)
			notDecoded(t, make([]byte, n), api.ErrShort)
		}
	}
	notDecoded(t, nil, api.ErrShort)
	notDecoded(t, []byte(frameOf(station, "\x00\x00\x00")), api.ErrShort)
	notDecoded(t, make([]byte, 21), api.ErrBPDU)
}

// P5.2
func TestDecodeOtherLengths(t *testing.T) {
	for _, p := range pairs() {
		frame := frameOf(station, p.want)
		for n := 21; n < len(frame); n++ {
			notDecoded(t, []byte(frame)[:n], api.ErrBPDU)
			notDecoded(t, []byte(frameOf(station, frame[17:n])), api.ErrBPDU)
		}
		notDecoded(t, []byte(frame+"\x00"), api.ErrBPDU)
		notDecoded(t, append([]byte(frame), make([]byte, 1<<16)...), api.ErrBPDU)
		notDecoded(t, []byte(frameOf(station, p.want+"\x00")), api.ErrBPDU)
	}
}

// P5.2: stations that are not of class Single.
func TestDecodeStations(t *testing.T) {
	for _, src := range notSingle() {
		for _, p := range pairs() {
			notDecoded(t, []byte(frameOf(src, p.want)), api.ErrBPDU)
		}
	}
}

// P5.2, P5.4: each byte of each frame with each other value: what is decoded, encoded, is what it was.
func TestDecodeEachByte(t *testing.T) {
	for _, p := range pairs() {
		frame := frameOf(other, p.want)
		for at := range len(frame) {
			for value := range 256 {
				b := []byte(frame)
				b[at] = byte(value)
				same := b[at] == frame[at]
				right := same || at >= 6 && at < 12 && b[6]%2 == 0 || at >= 17 && tells(p.m.Kind, at-17, b[at], frame[at])
				if !right {
					notDecoded(t, b, api.ErrBPDU)
					continue
				}
				src, m, e := Decode(b)
				if e != api.OK || !bytes.Equal(src[:], b[6:12]) {
					t.Fatalf("%x: %x %+v %v", b, src, m, e)
				}
				if again, e := Encode(src, m); e != api.OK || !bytes.Equal(again, b) {
					t.Fatalf("%x: %x %v", b, again, e)
				}
			}
		}
	}
}

// P5.2: the two bytes of the size, all of them.
func TestDecodeSizes(t *testing.T) {
	for _, p := range pairs() {
		b := []byte(frameOf(station, p.want))
		for size := range 1 << 16 {
			b[12], b[13] = byte(size>>8), byte(size)
			if size == len(p.want)+3 {
				continue
			}
			if _, _, e := Decode(b); e != api.ErrBPDU {
				t.Fatalf("%x: %v", b, e)
			}
		}
	}
}

// P5.3
func TestIs(t *testing.T) {
	for _, p := range pairs() {
		if !Is([]byte(frameOf(station, p.want))) {
			t.Errorf("%+v", p.m)
		}
	}
	least := []byte(frameOf(station, ""))
	if len(least) != 17 || !Is(least) {
		t.Errorf("%x", least)
	}
	for n := range 17 {
		if Is(least[:n]) || Is(make([]byte, n)) {
			t.Error(n, "bytes")
		}
	}
	if Is(nil) || Is(make([]byte, 17)) || Is(make([]byte, 60)) {
		t.Error("no frame")
	}
	if !Is(append(least, make([]byte, 2000)...)) {
		t.Error("a long one")
	}
}

// P5.3: it asks for the address and the three bytes, and for nothing else.
func TestIsEachByte(t *testing.T) {
	frame := []byte(frameOf(nobody, "\x00\x00\x00\x00"))
	for at := range frame {
		for value := range 256 {
			b := bytes.Clone(frame)
			b[at] = byte(value)
			asked := at < 6 || at >= 14 && at <= 16
			if want := !asked || b[at] == frame[at]; Is(b) != want || Is(b[:17]) != want {
				t.Fatalf("%x", b)
			}
		}
	}
}

// P5.4, P5.5: all messages that may be, there and back, and how long they are.
func TestThereAndBack(t *testing.T) {
	sizes := map[api.MsgKind]int{api.TCN: 4, api.Config: 35, api.RST: 36}
	allSorts(func(m api.BPDU) {
		if !may(m) {
			return
		}
		b, e := Bytes(m)
		if e != api.OK || len(b) != sizes[m.Kind] {
			t.Fatalf("%+v: %x %v", m, b, e)
		}
		if back, e := Read(b); e != api.OK || back != m {
			t.Fatalf("%+v: %+v %v", m, back, e)
		}
		f, e := Encode(other, m)
		if e != api.OK || len(f) != sizes[m.Kind]+17 || !Is(f) {
			t.Fatalf("%+v: %x %v", m, f, e)
		}
		if src, back, e := Decode(f); e != api.OK || src != other || back != m {
			t.Fatalf("%+v: %x %+v %v", m, src, back, e)
		}
	})
}

// P5.4: every bit of the numbers and of the station has a place of its own.
func TestEachBit(t *testing.T) {
	m := api.BPDU{Kind: api.RST, Role: api.Root}
	for i := range 64 {
		m.V = api.Vector{Root: 1 << i, Cost: 1 << (i % 32), Bridge: 1 << (63 - i), Port: 1 << (i % 16)}
		m.T = api.Times{Age: 1 << (i % 8), Max: 1 << ((i + 1) % 8), Hello: 1 << ((i + 2) % 8), Delay: 1 << ((i + 3) % 8)}
		src := mac.From(1 << (i % 40))
		f, e := Encode(src, m)
		if e != api.OK {
			t.Fatal(i, e)
		}
		if from, back, e := Decode(f); e != api.OK || from != src || back != m {
			t.Fatalf("%d: %x %+v %v", i, from, back, e)
		}
	}
}

// P5.1, P5.2: answers are new memory, and what is handed in is left as it is.
func TestMemory(t *testing.T) {
	m := api.BPDU{Kind: api.RST, Role: api.Designated, V: ways, T: times}
	one, _ := Bytes(m)
	two, _ := Bytes(m)
	for i := range one {
		one[i] ^= 0xff
	}
	if three, _ := Bytes(m); !bytes.Equal(two, three) {
		t.Errorf("%x %x", two, three)
	}
	f, _ := Encode(station, m)
	g, _ := Encode(station, m)
	for i := range f {
		f[i] ^= 0xff
	}
	if h, _ := Encode(station, m); !bytes.Equal(g, h) {
		t.Errorf("%x %x", g, h)
	}
	room := append(make([]byte, 0, 200), g...)
	Is(room)
	Decode(room)
	Read(room[17:])
	if !bytes.Equal(room, g) || !bytes.Equal(room[:200][len(g):], make([]byte, 200-len(g))) {
		t.Errorf("%x", room[:200])
	}
}
