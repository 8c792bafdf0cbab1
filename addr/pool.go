package addr

import (
	"cmp"
	"slices"
	"strings"

	"holloway/api"
	"holloway/notation"
	"holloway/span"
)

// CheckPool validates a pool.
func CheckPool(p api.Pool) api.Errno {
	if e := CheckPrefix(p.Prefix); e != api.OK {
		return e
	}
	if len(p.Kept) > api.MaxLeases {
		return api.ErrLarge
	}
	for _, k := range p.Kept {
		if e := checkPart(p, k); e != api.OK {
			return e
		}
	}
	if len(p.Leases) > api.MaxLeases {
		return api.ErrLarge
	}
	for i, l := range p.Leases {
		if e := checkLease(p, l); e != api.OK {
			return e
		}
		if i > 0 && l.Key <= p.Leases[i-1].Key {
			return api.ErrOrder
		}
	}
	if collides(p) {
		return api.ErrConflict
	}
	return api.OK
}

// checkPart validates a part of a pool.
func checkPart(p api.Pool, part api.Prefix) api.Errno {
	if e := CheckPrefix(part); e != api.OK {
		return e
	}
	if !inside(part, p.Prefix) {
		return api.ErrRule
	}
	return api.OK
}

// checkLease validates a lease of a pool by itself.
func checkLease(p api.Pool, l api.Lease) api.Errno {
	if !notation.IsKey(l.Key) {
		return api.ErrName
	}
	if e := checkPart(p, l.Prefix); e != api.OK {
		return e
	}
	if l.Prefix.Bits > p.Prefix.Bits+api.MaxPool {
		return api.ErrArg
	}
	return api.OK
}

// collides says whether a lease has an address that is kept, or leased twice.
func collides(p api.Pool) bool {
	for i, l := range p.Leases {
		meets := func(q api.Prefix) bool { return overlap(l.Prefix, q) }
		if slices.ContainsFunc(p.Kept, meets) || slices.ContainsFunc(prefixes(p.Leases[:i]), meets) {
			return true
		}
	}
	return false
}

// prefixes are those of leases.
func prefixes(l []api.Lease) []api.Prefix {
	out := make([]api.Prefix, 0, len(l))
	for _, x := range l {
		out = append(out, x.Prefix)
	}
	return out
}

// freeRanges are the ranges of what is neither kept nor leased in a pool.
func freeRanges(p api.Pool) []api.Range {
	held := slices.Concat(p.Kept, prefixes(p.Leases))
	return span.Combine(span.Of([]api.Prefix{p.Prefix}), span.Of(held), func(inPool, isHeld bool) bool {
		return inPool && !isHeld
	})
}

// Free is what is neither kept nor leased.
func Free(p api.Pool) ([]api.Prefix, api.Errno) {
	if e := CheckPool(p); e != api.OK {
		return nil, e
	}
	return setOf(freeRanges(p))
}

// checkNew is what is wrong with a key that shall get a lease.
func checkNew(p api.Pool, key string) api.Errno {
	if e := CheckPool(p); e != api.OK {
		return e
	}
	if !notation.IsKey(key) {
		return api.ErrName
	}
	if slices.ContainsFunc(p.Leases, func(l api.Lease) bool { return l.Key == key }) {
		return api.ErrTwice
	}
	return api.OK
}

// withLease is a new pool with a lease more.
func withLease(p api.Pool, l api.Lease) api.Pool {
	at, _ := slices.BinarySearchFunc(p.Leases, l.Key, func(x api.Lease, key string) int {
		return strings.Compare(x.Key, key)
	})
	leases := slices.Concat(p.Leases[:at], []api.Lease{l}, p.Leases[at:])
	return api.Pool{Prefix: p.Prefix, Kept: slices.Clone(p.Kept), Leases: leases}
}

// choice says whether a free part is better for a lease than the one found up to then, which is ahead of it.
type choice func(part, found api.Prefix) bool

func firstPart(_, _ api.Prefix) bool { return false }

func smallestPart(part, found api.Prefix) bool { return part.Bits > found.Bits }

// find is the first prefix of n bits in the best one of the free parts that are large enough, if there is one.
func find(p api.Pool, n int, better choice) (api.Prefix, bool) {
	var found api.Prefix
	ok := false
	for part := range span.Prefixes(freeRanges(p)) {
		if part.Bits <= n && (!ok || better(part, found)) {
			found, ok = part, true
		}
	}
	return api.Prefix{Addr: found.Addr, Bits: n}, ok
}

// lease leases to a key a prefix of n bits.
func lease(p api.Pool, key string, n int, better choice) (api.Pool, api.Prefix, api.Errno) {
	if e := checkNew(p, key); e != api.OK {
		return api.Pool{}, api.Prefix{}, e
	}
	if n < p.Prefix.Bits || n > min(span.Length(p.Prefix.Addr.Six), p.Prefix.Bits+api.MaxPool) {
		return api.Pool{}, api.Prefix{}, api.ErrArg
	}
	q, ok := find(p, n, better)
	if !ok || len(p.Leases) >= api.MaxLeases {
		return api.Pool{}, api.Prefix{}, api.ErrFull
	}
	return withLease(p, api.Lease{Key: key, Prefix: q}), q, api.OK
}

// Take leases the first prefix that is free.
func Take(p api.Pool, key string, n int) (api.Pool, api.Prefix, api.Errno) {
	return lease(p, key, n, firstPart)
}

// Best leases the first prefix in the smallest one that is free.
func Best(p api.Pool, key string, n int) (api.Pool, api.Prefix, api.Errno) {
	return lease(p, key, n, smallestPart)
}

// Pick leases a single address.
func Pick(p api.Pool, key string) (api.Pool, api.Prefix, api.Errno) {
	if e := checkNew(p, key); e != api.OK {
		return api.Pool{}, api.Prefix{}, e
	}
	all := span.Length(p.Prefix.Addr.Six)
	if p.Prefix.Bits < all-api.MaxPool {
		return api.Pool{}, api.Prefix{}, api.ErrArg
	}
	free := freeRanges(p)
	if len(p.Leases) >= api.MaxLeases || len(free) == 0 {
		return api.Pool{}, api.Prefix{}, api.ErrFull
	}
	wish := p.Prefix.Addr
	wish.Lo += notation.Sum(key) % (1 << (all - p.Prefix.Bits))
	q := api.Prefix{Addr: from(free, wish), Bits: all}
	return withLease(p, api.Lease{Key: key, Prefix: q}), q, api.OK
}

// from is the first address of ranges from another one on; behind the last one comes the first one again.
func from(l []api.Range, a api.Addr) api.Addr {
	for _, r := range l {
		if Compare(a, r.First) < 0 {
			return r.First
		}
		if Compare(a, r.Last) <= 0 {
			return a
		}
	}
	return l[0].First
}

// Pack leases all anew.
func Pack(p api.Pool) (api.Pool, api.Errno) {
	if e := CheckPool(p); e != api.OK {
		return api.Pool{}, e
	}
	order := slices.Clone(p.Leases)
	slices.SortFunc(order, func(x, y api.Lease) int {
		return cmp.Or(cmp.Compare(x.Prefix.Bits, y.Prefix.Bits), strings.Compare(x.Key, y.Key))
	})
	out := api.Pool{Prefix: p.Prefix, Kept: slices.Clone(p.Kept)}
	for _, l := range order {
		q, ok := find(out, l.Prefix.Bits, firstPart)
		if !ok {
			return api.Pool{}, api.ErrFull
		}
		out = withLease(out, api.Lease{Key: l.Key, Prefix: q})
	}
	return out, api.OK
}
