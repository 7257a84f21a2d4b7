package mac

import (
	"bytes"
	"fmt"
	"math"
	"strings"
	"testing"

	"pontage/api"
)

// samples are addresses of all classes and edges, each byte's neighbours among them.
func samples() []api.MAC {
	list := []api.MAC{
		{},
		{255, 255, 255, 255, 255, 255},
		{1, 0x80, 0xc2, 0, 0, 0},
		{1, 0x80, 0xc2, 0, 0, 15},
		{1, 0x80, 0xc2, 0, 0, 16},
		{1, 0x1e, 0x83, 0, 0, 0},
		{1, 0x1e, 0x83, 0, 0, 1},
		{1, 0x1e, 0x83, 0, 0x13, 0x88},
		{1, 0x1e, 0x83, 255, 255, 255},
		{2, 0, 0, 0, 0, 1},
		{0x12, 0x34, 0x56, 0x78, 0x9a, 0xbc},
		{0xde, 0xf0, 0x0f, 0xed, 0xcb, 0xa9},
	}
	for place := range 6 {
		for _, b := range []byte{1, 2, 9, 10, 15, 16, 127, 128, 254, 255} {
			var low, high api.MAC
			high = api.MAC{255, 255, 255, 255, 255, 255}
			low[place], high[place] = b, 255-b
			list = append(list, low, high)
		}
	}
	return list
}

// P1.1
func TestKind(t *testing.T) {
	cases := []struct {
		m    api.MAC
		want api.Class
	}{
		{api.MAC{}, api.NoStation},
		{api.MAC{0, 0, 0, 0, 0, 1}, api.Single},
		{api.MAC{0, 1, 0, 0, 0, 0}, api.Single},
		{api.MAC{2}, api.Single},
		{api.MAC{254, 255, 255, 255, 255, 255}, api.Single},
		{api.MAC{0, 0x80, 0xc2, 0, 0, 0}, api.Single},
		{api.MAC{0, 0x1e, 0x83, 0, 0, 1}, api.Single},
		{api.MAC{255, 255, 255, 255, 255, 255}, api.All},
		{api.MAC{255, 255, 255, 255, 255, 254}, api.Group},
		{api.MAC{253, 255, 255, 255, 255, 255}, api.Group},
		{api.MAC{1}, api.Group},
		{api.MAC{1, 0x80, 0xc2, 0, 0, 0}, api.Reserved},
		{api.MAC{1, 0x80, 0xc2, 0, 0, 15}, api.Reserved},
		{api.MAC{1, 0x80, 0xc2, 0, 0, 16}, api.Group},
		{api.MAC{1, 0x80, 0xc2, 0, 0, 255}, api.Group},
		{api.MAC{1, 0x80, 0xc2, 0, 1, 0}, api.Group},
		{api.MAC{1, 0x80, 0xc2, 1, 0, 0}, api.Group},
		{api.MAC{1, 0x80, 0xc3, 0, 0, 0}, api.Group},
		{api.MAC{1, 0x81, 0xc2, 0, 0, 0}, api.Group},
		{api.MAC{3, 0x80, 0xc2, 0, 0, 0}, api.Group},
		{api.MAC{1, 0x1e, 0x83, 0, 0, 0}, api.Service},
		{api.MAC{1, 0x1e, 0x83, 0, 0x13, 0x88}, api.Service},
		{api.MAC{1, 0x1e, 0x83, 255, 255, 255}, api.Service},
		{api.MAC{1, 0x1e, 0x82, 0, 0, 1}, api.Group},
		{api.MAC{1, 0x1e, 0x84, 0, 0, 1}, api.Group},
		{api.MAC{1, 0x1f, 0x83, 0, 0, 1}, api.Group},
		{api.MAC{3, 0x1e, 0x83, 0, 0, 1}, api.Group},
	}
	for _, c := range cases {
		if got := Kind(c.m); got != c.want {
			t.Errorf("Kind(%x) = %d, not %d", c.m, got, c.want)
		}
	}
}

// P1.1
func TestMany(t *testing.T) {
	for first := range 256 {
		for _, m := range []api.MAC{{byte(first)}, {byte(first), 255, 255, 255, 255, 255}} {
			if got := Many(m); got != (first%2 == 1) {
				t.Errorf("Many(%x) = %v", m, got)
			}
		}
	}
}

// P1.2
func TestText(t *testing.T) {
	cases := []struct {
		m    api.MAC
		want string
	}{
		{api.MAC{}, "00-00-00-00-00-00"},
		{api.MAC{255, 255, 255, 255, 255, 255}, "ff-ff-ff-ff-ff-ff"},
		{api.MAC{0x12, 0x34, 0x56, 0x78, 0x9a, 0xbc}, "12-34-56-78-9a-bc"},
		{api.MAC{0xde, 0xf0, 0x0f, 0xed, 0xcb, 0xa9}, "de-f0-0f-ed-cb-a9"},
		{api.MAC{1, 0x80, 0xc2, 0, 0, 15}, "01-80-c2-00-00-0f"},
	}
	for _, c := range cases {
		if got := Text(c.m); got != c.want {
			t.Errorf("Text(%x) = %q, not %q", c.m, got, c.want)
		}
	}
}

// P1.2
func TestParse(t *testing.T) {
	m, e := Parse("de-f0-0f-ed-cb-a9")
	if want := (api.MAC{0xde, 0xf0, 0x0f, 0xed, 0xcb, 0xa9}); m != want || e != api.OK {
		t.Errorf("%x, %d", m, e)
	}
}

// P1.2
func TestParseRefuses(t *testing.T) {
	wrong := []string{
		"", "-", "0", "-----", "00-00-00-00-00", "00-00-00-00-00-", "00-00-00-00-00-0",
		"00-00-00-00-00-000", "00-00-00-00-00-00-", "00-00-00-00-00-00-00", "-00-00-00-00-00-00",
		"000000000000", "00:00:00:00:00:00", "00-00-00-00-00:00", "0-000-00-00-00-00",
		" 0-00-00-00-00-00", "00-00-00-00-00-0 ", " 00-00-00-00-00-00", "00-00-00-00-00-00 ", "00-00-00-00-00-00\n",
		"0A-00-00-00-00-00", "00-00-00-00-00-F0", "0g-00-00-00-00-00", "0x-00-00-00-00-00",
		"+1-00-00-00-00-00", "00-00-00-00-00-0\x00", "00-00-00-00-00-0\xff", "00-00-00-00-00-é",
		"00000000000000000", "-----------------", strings.Repeat("00-", 6), strings.Repeat("00-", 100),
	}
	for _, s := range wrong {
		if m, e := Parse(s); m != (api.MAC{}) || e != api.ErrMAC {
			t.Errorf("Parse(%q) = %x, %d", s, m, e)
		}
	}
}

// P1.2: each byte at each place of a text is either part of an address's text, or refused.
func TestParseEveryByte(t *testing.T) {
	const good = "12-34-56-78-9a-bc"
	for i := range len(good) {
		for c := range 256 {
			s := good[:i] + string([]byte{byte(c)}) + good[i+1:]
			allowed := "0123456789abcdef"
			if i%3 == 2 {
				allowed = "-"
			}
			m, e := Parse(s)
			if strings.IndexByte(allowed, byte(c)) < 0 {
				if m != (api.MAC{}) || e != api.ErrMAC {
					t.Errorf("Parse(%q) = %x, %d", s, m, e)
				}
			} else if e != api.OK || Text(m) != s {
				t.Errorf("Parse(%q) = %x, %d", s, m, e)
			}
		}
	}
}

// P1.3
func TestGroup(t *testing.T) {
	cases := []struct {
		isid int
		want api.MAC
		e    api.Errno
	}{
		{5000, api.MAC{1, 0x1e, 0x83, 0, 0x13, 0x88}, api.OK},
		{1, api.MAC{1, 0x1e, 0x83, 0, 0, 1}, api.OK},
		{256, api.MAC{1, 0x1e, 0x83, 0, 1, 0}, api.OK},
		{0x123456, api.MAC{1, 0x1e, 0x83, 0x12, 0x34, 0x56}, api.OK},
		{api.MaxISID, api.MAC{1, 0x1e, 0x83, 255, 255, 255}, api.OK},
		{0, api.MAC{}, api.ErrArg},
		{-1, api.MAC{}, api.ErrArg},
		{api.MaxISID + 1, api.MAC{}, api.ErrArg},
		{math.MaxInt, api.MAC{}, api.ErrArg},
		{math.MinInt, api.MAC{}, api.ErrArg},
	}
	for _, c := range cases {
		if got, e := Group(c.isid); got != c.want || e != c.e {
			t.Errorf("Group(%d) = %x, %d, not %x, %d", c.isid, got, e, c.want, c.e)
		}
	}
}

// P1.3
func TestISID(t *testing.T) {
	cases := []struct {
		m    api.MAC
		want int
		ok   bool
	}{
		{api.MAC{1, 0x1e, 0x83, 0, 0x13, 0x88}, 5000, true},
		{api.MAC{1, 0x1e, 0x83, 0, 0, 1}, 1, true},
		{api.MAC{1, 0x1e, 0x83, 0x12, 0x34, 0x56}, 0x123456, true},
		{api.MAC{1, 0x1e, 0x83, 255, 255, 255}, api.MaxISID, true},
		{api.MAC{1, 0x1e, 0x83, 0, 0, 0}, 0, false},
		{api.MAC{1, 0x1e, 0x82, 0, 0x13, 0x88}, 0, false},
		{api.MAC{1, 0x1f, 0x83, 0, 0x13, 0x88}, 0, false},
		{api.MAC{0, 0x1e, 0x83, 0, 0x13, 0x88}, 0, false},
		{api.MAC{1, 0x80, 0xc2, 0, 0, 1}, 0, false},
		{api.MAC{255, 255, 255, 255, 255, 255}, 0, false},
		{api.MAC{}, 0, false},
	}
	for _, c := range cases {
		if got, ok := ISID(c.m); got != c.want || ok != c.ok {
			t.Errorf("ISID(%x) = %d, %v, not %d, %v", c.m, got, ok, c.want, c.ok)
		}
	}
}

// P1.4
func TestNumber(t *testing.T) {
	cases := []struct {
		m    api.MAC
		want uint64
	}{
		{api.MAC{}, 0},
		{api.MAC{0, 0, 0, 0, 1, 2}, 258},
		{api.MAC{0x12, 0x34, 0x56, 0x78, 0x9a, 0xbc}, 0x123456789abc},
		{api.MAC{255, 255, 255, 255, 255, 255}, 1<<48 - 1},
	}
	for _, c := range cases {
		if got := Number(c.m); got != c.want {
			t.Errorf("Number(%x) = %x, not %x", c.m, got, c.want)
		}
	}
}

// P1.4
func TestFrom(t *testing.T) {
	cases := []struct {
		n    uint64
		want api.MAC
	}{
		{0, api.MAC{}},
		{258, api.MAC{0, 0, 0, 0, 1, 2}},
		{0x123456789abc, api.MAC{0x12, 0x34, 0x56, 0x78, 0x9a, 0xbc}},
		{1<<48 - 1, api.MAC{255, 255, 255, 255, 255, 255}},
		{1 << 48, api.MAC{}},
		{1<<48 + 258, api.MAC{0, 0, 0, 0, 1, 2}},
		{0xfedc123456789abc, api.MAC{0x12, 0x34, 0x56, 0x78, 0x9a, 0xbc}},
		{math.MaxUint64, api.MAC{255, 255, 255, 255, 255, 255}},
	}
	for _, c := range cases {
		if got := From(c.n); got != c.want {
			t.Errorf("From(%x) = %x, not %x", c.n, got, c.want)
		}
	}
}

// P1.4
func TestLess(t *testing.T) {
	for _, a := range samples() {
		for _, b := range samples() {
			if got := Less(a, b); got != (bytes.Compare(a[:], b[:]) < 0) {
				t.Errorf("Less(%x, %x) = %v", a, b, got)
			}
		}
	}
}

// P1.5
func TestThereAndBack(t *testing.T) {
	for _, m := range samples() {
		s := Text(m)
		if want := fmt.Sprintf("%02x-%02x-%02x-%02x-%02x-%02x", m[0], m[1], m[2], m[3], m[4], m[5]); s != want {
			t.Errorf("Text(%x) = %q, not %q", m, s, want)
		}
		back, e := Parse(s)
		if back != m || e != api.OK {
			t.Errorf("Parse(%q) = %x, %d", s, back, e)
		}
		if again := Text(back); again != s {
			t.Errorf("%q printed anew is %q", s, again)
		}
		if got := From(Number(m)); got != m {
			t.Errorf("From(Number(%x)) = %x", m, got)
		}
	}
}

// P1.5, P1.6: each group's Number is above the one ahead of it, so no two are alike.
func TestAllGroups(t *testing.T) {
	var last uint64
	for isid := 1; isid <= api.MaxISID; isid++ {
		m, e := Group(isid)
		if e != api.OK || Kind(m) != api.Service || !Many(m) {
			t.Fatalf("Group(%d) = %x, %d, of class %d", isid, m, e, Kind(m))
		}
		if got, ok := ISID(m); got != isid || !ok {
			t.Fatalf("ISID(Group(%d)) = %d, %v", isid, got, ok)
		}
		n := Number(m)
		if n <= last {
			t.Fatalf("Group(%d) = %x is not above the one ahead of it", isid, m)
		}
		last = n
	}
}

// P1.7
func TestOrder(t *testing.T) {
	list := samples()
	for _, a := range list {
		for _, b := range list {
			ways := 0
			for _, holds := range []bool{a == b, Less(a, b), Less(b, a)} {
				if holds {
					ways++
				}
			}
			if ways != 1 {
				t.Fatalf("%x and %x: %d of alike, ahead and behind hold", a, b, ways)
			}
			for _, c := range list {
				if Less(a, b) && Less(b, c) && !Less(a, c) {
					t.Fatalf("%x is ahead of %x, this of %x, but the first not of the last", a, b, c)
				}
			}
		}
	}
}
