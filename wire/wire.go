// Package wire has numbers and addresses as bytes, the highest byte first.
package wire

import "holloway/api"

// Number appends a number of so many bytes.
func Number(b []byte, size int, n uint64) []byte {
	for i := size - 1; i >= 0; i-- {
		b = append(b, byte(n>>(8*i)))
	}
	return b
}

// NumberOf is the number of at most eight bytes.
func NumberOf(b []byte) uint64 {
	n := uint64(0)
	for _, x := range b {
		n = n<<8 | uint64(x)
	}
	return n
}

// IntOf is the number of at most four bytes.
func IntOf(b []byte) int { return int(NumberOf(b)) }

// Addr appends an address: 4 bytes, or 16.
func Addr(b []byte, a api.Addr) []byte {
	if !a.Six {
		return Number(b, 4, a.Lo)
	}
	return Number(Number(b, 8, a.Hi), 8, a.Lo)
}

// AddrOf is the address of 4 or 16 bytes.
func AddrOf(b []byte) api.Addr {
	if len(b) == 4 {
		return api.Addr{Lo: NumberOf(b)}
	}
	return api.Addr{Six: true, Hi: NumberOf(b[:8]), Lo: NumberOf(b[8:])}
}
