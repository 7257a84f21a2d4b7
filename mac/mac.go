// Package mac is layer 1: addresses of stations, as texts and as numbers, and what they are.
package mac

import "pontage/api"

const (
	digits    = "0123456789abcdef"
	gap       = '-'
	textLen   = 17             // six times two digits, five gaps
	noService = 0x011e83000000 // the Number that the groups of all services begin from
)

// Kind is an address's class: the first of them that fits, so the order of the cases counts.
func Kind(m api.MAC) api.Class {
	switch {
	case m == api.MAC{}:
		return api.NoStation
	case m == api.MAC{0xff, 0xff, 0xff, 0xff, 0xff, 0xff}:
		return api.All
	case isReserved(m):
		return api.Reserved
	case isService(m):
		return api.Service
	case Many(m):
		return api.Group
	}
	return api.Single
}

func isReserved(m api.MAC) bool {
	return m[5] < 16 && m == api.MAC{0x01, 0x80, 0xc2, 0x00, 0x00, m[5]}
}

func isService(m api.MAC) bool {
	return m == api.MAC{0x01, 0x1e, 0x83, m[3], m[4], m[5]}
}

// Text is an address's: two digits of each byte, gaps between.
func Text(m api.MAC) string {
	text := make([]byte, textLen)
	for i := range textLen {
		text[i] = letter(m, i)
	}
	return string(text)
}

func letter(m api.MAC, i int) byte {
	switch i % 3 {
	case 0:
		return digits[m[i/3]>>4]
	case 1:
		return digits[m[i/3]&15]
	}
	return gap
}

// Parse is the address of a text. Only what Text prints is one: capital digits are not.
func Parse(s string) (api.MAC, api.Errno) {
	if len(s) != textLen {
		return api.MAC{}, api.ErrMAC
	}
	var m api.MAC
	for i := range textLen {
		if i%3 == 2 {
			if s[i] != gap {
				return api.MAC{}, api.ErrMAC
			}
			continue
		}
		value, ok := digit(s[i])
		if !ok {
			return api.MAC{}, api.ErrMAC
		}
		m[i/3] = m[i/3]<<4 | value
	}
	return m, api.OK
}

func digit(c byte) (byte, bool) {
	for i := range len(digits) {
		if digits[i] == c {
			return byte(i), true
		}
	}
	return 0, false
}

// Group is a service's.
func Group(isid int) (api.MAC, api.Errno) {
	if isid < 1 || isid > api.MaxISID {
		return api.MAC{}, api.ErrArg
	}
	return From(noService + uint64(isid)), api.OK
}

// ISID is whose group an address is. There is no service 0, though the class of its address would be Service.
func ISID(m api.MAC) (int, bool) {
	isid := int(Number(m) & api.MaxISID)
	if !isService(m) || isid == 0 {
		return 0, false
	}
	return isid, true
}

// Number is an address as a number, its first byte the highest.
func Number(m api.MAC) uint64 {
	var n uint64
	for i := range len(m) {
		n = n<<8 | uint64(m[i])
	}
	return n
}

// From is the address of a number; what stands above its 48 bits is left out.
func From(n uint64) api.MAC {
	var m api.MAC
	for i := range len(m) {
		m[len(m)-1-i] = byte(n >> (8 * i))
	}
	return m
}

// Less tells whether an address is ahead of another one.
func Less(a, b api.MAC) bool {
	return Number(a) < Number(b)
}

// Many tells whether an address is to more than one.
func Many(m api.MAC) bool {
	return m[0]%2 == 1
}
