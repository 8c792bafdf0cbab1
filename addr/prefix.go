package addr

import (
	"cmp"
	"math/bits"
	"strconv"
	"strings"

	"holloway/api"
	"holloway/notation"
	"holloway/span"
)

// CheckPrefix validates a prefix.
func CheckPrefix(p api.Prefix) api.Errno {
	q, e := Mask(p.Addr, p.Bits)
	if e == api.OK && q != p {
		return api.ErrForm
	}
	return e
}

// Mask is the prefix in which an address is.
func Mask(a api.Addr, n int) (api.Prefix, api.Errno) {
	if e := CheckAddr(a); e != api.OK {
		return api.Prefix{}, e
	}
	if n < 0 || n > span.Length(a.Six) {
		return api.Prefix{}, api.ErrArg
	}
	return span.Mask(a, n), api.OK
}

// Last is the last address of a prefix.
func Last(p api.Prefix) (api.Addr, api.Errno) {
	if e := CheckPrefix(p); e != api.OK {
		return api.Addr{}, e
	}
	return span.RangeOf(p).Last, api.OK
}

// Contains says whether an address is in a prefix.
func Contains(p api.Prefix, a api.Addr) (bool, api.Errno) {
	if e := cmp.Or(CheckPrefix(p), CheckAddr(a)); e != api.OK {
		return false, e
	}
	return contains(p, a), api.OK
}

// contains is Contains for what is right.
func contains(p api.Prefix, a api.Addr) bool {
	return p.Addr.Six == a.Six && span.Mask(a, p.Bits) == p
}

// Inside says whether all addresses of a prefix are in another one.
func Inside(p, q api.Prefix) (bool, api.Errno) {
	if e := cmp.Or(CheckPrefix(p), CheckPrefix(q)); e != api.OK {
		return false, e
	}
	return inside(p, q), api.OK
}

// inside is Inside for what is right.
func inside(p, q api.Prefix) bool { return q.Bits <= p.Bits && contains(q, p.Addr) }

// overlap says whether two prefixes have an address in common.
func overlap(p, q api.Prefix) bool { return inside(p, q) || inside(q, p) }

// Common is the longest prefix in which both are.
func Common(p, q api.Prefix) (api.Prefix, api.Errno) {
	if e := cmp.Or(CheckPrefix(p), CheckPrefix(q)); e != api.OK {
		return api.Prefix{}, e
	}
	if p.Addr.Six != q.Addr.Six {
		return api.Prefix{}, api.ErrType
	}
	return span.Mask(p.Addr, min(p.Bits, q.Bits, equalBits(p.Addr, q.Addr))), api.OK
}

// equalBits is how many of the first bits of two addresses of one length are equal.
func equalBits(a, b api.Addr) int {
	n := bits.LeadingZeros64(a.Hi ^ b.Hi)
	if n == 64 {
		n += bits.LeadingZeros64(a.Lo ^ b.Lo)
	}
	return n - 128 + span.Length(a.Six)
}

// PrefixText writes a prefix.
func PrefixText(p api.Prefix) (string, api.Errno) {
	if e := CheckPrefix(p); e != api.OK {
		return "", e
	}
	s, e := Text(p.Addr)
	return s + "/" + strconv.Itoa(p.Bits), e
}

// ParsePrefix reads a prefix.
func ParsePrefix(s string) (api.Prefix, api.Errno) {
	text, number, _ := strings.Cut(s, "/")
	a, e := Parse(text)
	n, ok := notation.Number(number, 3)
	p := api.Prefix{Addr: a, Bits: n}
	if e != api.OK || !ok || CheckPrefix(p) != api.OK {
		return api.Prefix{}, api.ErrSyntax
	}
	return p, api.OK
}
