// Package span computes with addresses as numbers, and with lists of ranges of them. It takes addresses and prefixes that are right (package addr checks them), and its lists have no limit.
//
// A list of ranges is least if they rise and no two of them overlap or lie next to each other.
package span

import (
	"cmp"
	"iter"
	"math/bits"
	"slices"

	"holloway/api"
)

// Length is how many bits an address has.
func Length(six bool) int {
	if six {
		return 128
	}
	return 32
}

// Compare orders addresses, right or not.
func Compare(a, b api.Addr) int {
	if a.Six != b.Six {
		if b.Six {
			return -1
		}
		return 1
	}
	return cmp.Or(cmp.Compare(a.Hi, b.Hi), cmp.Compare(a.Lo, b.Lo))
}

// ComparePrefixes orders prefixes by their addresses, then by their bits.
func ComparePrefixes(p, q api.Prefix) int {
	return cmp.Or(Compare(p.Addr, q.Addr), cmp.Compare(p.Bits, q.Bits))
}

// ones is the number whose lowest n bits are 1, of 128 bits.
func ones(n int) (hi, lo uint64) {
	if n > 64 {
		return uint64(1)<<(n-64) - 1, ^uint64(0)
	}
	return 0, uint64(1)<<n - 1
}

// Mask is the prefix of n bits in which an address is.
func Mask(a api.Addr, n int) api.Prefix {
	hi, lo := ones(Length(a.Six) - n)
	return api.Prefix{Addr: api.Addr{Six: a.Six, Hi: a.Hi &^ hi, Lo: a.Lo &^ lo}, Bits: n}
}

// RangeOf is the range of the addresses of a prefix.
func RangeOf(p api.Prefix) api.Range {
	hi, lo := ones(Length(p.Addr.Six) - p.Bits)
	return api.Range{First: p.Addr, Last: api.Addr{Six: p.Addr.Six, Hi: p.Addr.Hi | hi, Lo: p.Addr.Lo | lo}}
}

// whole is the range of all addresses of one length.
func whole(six bool) api.Range { return RangeOf(api.Prefix{Addr: api.Addr{Six: six}}) }

// next is the address behind another one, if there is one of this length.
func next(a api.Addr) (api.Addr, bool) {
	if a == whole(a.Six).Last {
		return api.Addr{}, false
	}
	a.Lo++
	if a.Lo == 0 {
		a.Hi++
	}
	return a, true
}

// before is the address ahead of one that is not the first of its length.
func before(a api.Addr) api.Addr {
	if a.Lo == 0 {
		a.Hi--
	}
	a.Lo--
	return a
}

// Join is the least list of the addresses of ranges in any order.
func Join(l []api.Range) []api.Range {
	sorted := slices.Clone(l)
	slices.SortFunc(sorted, func(x, y api.Range) int { return Compare(x.First, y.First) })
	var out []api.Range
	for _, r := range sorted {
		n := len(out)
		if n == 0 || !touches(out[n-1], r) {
			out = append(out, r)
		} else if Compare(out[n-1].Last, r.Last) < 0 {
			out[n-1].Last = r.Last
		}
	}
	return out
}

// touches says whether a range y, which does not begin ahead of x, overlaps it or lies next to it.
func touches(x, y api.Range) bool {
	if x.First.Six != y.First.Six {
		return false
	}
	behind, ok := next(x.Last)
	return !ok || Compare(y.First, behind) <= 0
}

// Singles are ranges of one address each.
func Singles(l []api.Addr) []api.Range {
	var out []api.Range
	for _, a := range l {
		out = append(out, api.Range{First: a, Last: a})
	}
	return out
}

// Of is the least list of the addresses of prefixes in any order.
func Of(l []api.Prefix) []api.Range {
	out := make([]api.Range, 0, len(l))
	for _, p := range l {
		out = append(out, RangeOf(p))
	}
	return Join(out)
}

// Has says whether a least list has an address.
func Has(l []api.Range, a api.Addr) bool { return Meets(l, api.Range{First: a, Last: a}) }

// Meets says whether a least list has an address of a range.
func Meets(l []api.Range, r api.Range) bool {
	_, ok := slices.BinarySearchFunc(l, r, func(x, r api.Range) int {
		if Compare(x.Last, r.First) < 0 {
			return -1
		}
		return max(Compare(x.First, r.Last), 0)
	})
	return ok
}

// Covers says whether a least list has all addresses of another one.
func Covers(a, b []api.Range) bool {
	i := 0
	for _, r := range b {
		for i < len(a) && Compare(a[i].Last, r.Last) < 0 {
			i++
		}
		if i == len(a) || Compare(r.First, a[i].First) < 0 {
			return false
		}
	}
	return true
}

// Cuts are the addresses, rising, from each of which on up to the next one (or the last one of its length) all addresses are in the same ranges of the lists, which can overlap.
func Cuts(lists ...[]api.Range) []api.Addr {
	out := []api.Addr{{}, {Six: true}}
	for _, l := range lists {
		for _, r := range l {
			out = append(out, r.First)
			if behind, ok := next(r.Last); ok {
				out = append(out, behind)
			}
		}
	}
	slices.SortFunc(out, Compare)
	return slices.Compact(out)
}

// Where is the least list of the addresses for which holds says so: it is asked for each cut, and says the same up to the next one.
func Where(cuts []api.Addr, holds func(a api.Addr) bool) []api.Range {
	var out []api.Range
	for i, first := range cuts {
		if !holds(first) {
			continue
		}
		last := whole(first.Six).Last
		if i+1 < len(cuts) && cuts[i+1].Six == first.Six {
			last = before(cuts[i+1])
		}
		out = append(out, api.Range{First: first, Last: last})
	}
	return Join(out)
}

// Combine is the least list of the addresses that keep wants, which is told whether they are in a, and in b (two least lists).
func Combine(a, b []api.Range, keep func(inA, inB bool) bool) []api.Range {
	return Where(Cuts(a, b), func(x api.Addr) bool { return keep(Has(a, x), Has(b, x)) })
}

// Prefixes goes through the least list of prefixes with the addresses of a least list of ranges.
func Prefixes(l []api.Range) iter.Seq[api.Prefix] {
	return func(yield func(api.Prefix) bool) {
		for _, r := range l {
			first, more := r.First, true
			for more && Compare(first, r.Last) <= 0 {
				p := widest(first, r.Last)
				if !yield(p) {
					return
				}
				first, more = next(RangeOf(p).Last)
			}
		}
	}
}

// widest is the prefix with the fewest bits that begins at first and does not go beyond last.
func widest(first, last api.Addr) api.Prefix {
	free := min(zeros(first), power(first, last))
	return api.Prefix{Addr: first, Bits: Length(first.Six) - free}
}

// zeros is how many of the last bits of an address are 0.
func zeros(a api.Addr) int {
	if a.Lo != 0 {
		return bits.TrailingZeros64(a.Lo)
	}
	return 64 + bits.TrailingZeros64(a.Hi)
}

// power is the greatest n for which there are 2^n addresses from first to last.
func power(first, last api.Addr) int {
	lo, borrow := bits.Sub64(last.Lo, first.Lo, 0)
	hi, _ := bits.Sub64(last.Hi, first.Hi, borrow)
	lo, carry := bits.Add64(lo, 1, 0)
	hi, over := bits.Add64(hi, 0, carry)
	if over != 0 {
		return 128
	}
	if hi != 0 {
		return 63 + bits.Len64(hi)
	}
	return bits.Len64(lo) - 1
}
