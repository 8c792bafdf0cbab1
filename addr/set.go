package addr

import (
	"cmp"
	"math/bits"
	"slices"

	"holloway/api"
	"holloway/notation"
	"holloway/span"
)

// CheckSet validates a set.
func CheckSet(l []api.Prefix) api.Errno {
	if len(l) > api.MaxSet {
		return api.ErrLarge
	}
	for i, p := range l {
		if e := CheckPrefix(p); e != api.OK {
			return e
		}
		if i > 0 && Compare(p.Addr, l[i-1].Addr) <= 0 {
			return api.ErrOrder
		}
	}
	// In this order, prefixes with an address in common, or halves, make two neighbours that are so.
	for i := range l {
		if i > 0 && (overlap(l[i-1], l[i]) || halves(l[i-1], l[i])) {
			return api.ErrRule
		}
	}
	return api.OK
}

// halves says whether two prefixes that have no address in common are the halves of a longer one.
func halves(p, q api.Prefix) bool {
	return p.Bits == q.Bits && p.Bits > 0 && contains(span.Mask(p.Addr, p.Bits-1), q.Addr)
}

// setOf is the set of ranges.
func setOf(l []api.Range) ([]api.Prefix, api.Errno) {
	var out []api.Prefix
	for p := range span.Prefixes(l) {
		if len(out) == api.MaxSet {
			return nil, api.ErrLarge
		}
		out = append(out, p)
	}
	return out, api.OK
}

// Span is the set of a range.
func Span(r api.Range) ([]api.Prefix, api.Errno) {
	if e := cmp.Or(CheckAddr(r.First), CheckAddr(r.Last)); e != api.OK {
		return nil, e
	}
	if r.First.Six != r.Last.Six {
		return nil, api.ErrType
	}
	if Compare(r.Last, r.First) < 0 {
		return nil, api.ErrOrder
	}
	return setOf([]api.Range{r})
}

// Least is the set of prefixes.
func Least(l []api.Prefix) ([]api.Prefix, api.Errno) {
	if len(l) > api.MaxSet {
		return nil, api.ErrLarge
	}
	for _, p := range l {
		if e := CheckPrefix(p); e != api.OK {
			return nil, e
		}
	}
	return setOf(span.Of(l))
}

// Ranges are the ranges of a set.
func Ranges(s []api.Prefix) ([]api.Range, api.Errno) {
	if e := CheckSet(s); e != api.OK {
		return nil, e
	}
	return span.Of(s), api.OK
}

// combine is what keep wants of two sets, as ranges.
func combine(a, b []api.Prefix, keep func(inA, inB bool) bool) ([]api.Range, api.Errno) {
	if e := cmp.Or(CheckSet(a), CheckSet(b)); e != api.OK {
		return nil, e
	}
	return span.Combine(span.Of(a), span.Of(b), keep), api.OK
}

// combined is what keep wants of two sets, as a set.
func combined(a, b []api.Prefix, keep func(inA, inB bool) bool) ([]api.Prefix, api.Errno) {
	l, e := combine(a, b, keep)
	if e != api.OK {
		return nil, e
	}
	return setOf(l)
}

// Union is what is in one of two sets.
func Union(a, b []api.Prefix) ([]api.Prefix, api.Errno) {
	return combined(a, b, func(inA, inB bool) bool { return inA || inB })
}

// Both is what is in both of two sets.
func Both(a, b []api.Prefix) ([]api.Prefix, api.Errno) {
	return combined(a, b, func(inA, inB bool) bool { return inA && inB })
}

// Without is what is in a set, but not in another one.
func Without(a, b []api.Prefix) ([]api.Prefix, api.Errno) {
	return combined(a, b, func(inA, inB bool) bool { return inA && !inB })
}

// Rest is what is not in a set.
func Rest(s []api.Prefix) ([]api.Prefix, api.Errno) {
	return combined(s, nil, func(inSet, _ bool) bool { return !inSet })
}

// Has says whether an address is in a set.
func Has(s []api.Prefix, a api.Addr) (bool, api.Errno) {
	if e := cmp.Or(CheckSet(s), CheckAddr(a)); e != api.OK {
		return false, e
	}
	return slices.ContainsFunc(s, func(p api.Prefix) bool { return contains(p, a) }), api.OK
}

// Covers says whether a set has all of another one.
func Covers(a, b []api.Prefix) (bool, api.Errno) {
	missing, e := combine(a, b, func(inA, inB bool) bool { return inB && !inA })
	return e == api.OK && len(missing) == 0, e
}

// Size is how many addresses a set has.
func Size(s []api.Prefix) (string, api.Errno) {
	if e := CheckSet(s); e != api.OK {
		return "", e
	}
	var n count
	for _, p := range s {
		n = n.plus(span.Length(p.Addr.Six) - p.Bits)
	}
	return n.text(), api.OK
}

// count is a number of three digits of 64 bits, the lowest one first: there are more than 2^128 addresses.
type count [3]uint64

// plus adds a power of 2.
func (n count) plus(power int) count {
	var carry uint64
	for i := range n {
		var add uint64
		if i == power/64 {
			add = uint64(1) << (power % 64)
		}
		n[i], carry = bits.Add64(n[i], add, carry)
	}
	return n
}

// text writes a count in decimal digits.
func (n count) text() string {
	var digits []byte
	for len(digits) == 0 || n != (count{}) {
		var digit uint64
		for i := len(n) - 1; i >= 0; i-- {
			n[i], digit = bits.Div64(digit, n[i], 10)
		}
		digits = append(digits, byte('0'+digit))
	}
	slices.Reverse(digits)
	return string(digits)
}

// SetText writes a set.
func SetText(s []api.Prefix) (string, api.Errno) {
	if e := CheckSet(s); e != api.OK {
		return "", e
	}
	return notation.Lines(s, func(p api.Prefix) string {
		line, _ := PrefixText(p)
		return line
	})
}

// ReadSet reads a set.
func ReadSet(text string) ([]api.Prefix, int, api.Errno) {
	read := func(line string) (api.Prefix, bool) {
		p, e := ParsePrefix(line)
		return p, e == api.OK
	}
	return notation.ReadParts(text, read, CheckSet)
}
