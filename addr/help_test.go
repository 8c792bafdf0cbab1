package addr_test

import (
	"fmt"
	"math/rand"
	"reflect"
	"strings"
	"testing"

	"holloway/addr"
	"holloway/api"
)

// is compares two values by what is shown of them, so that nil and empty lists are the same (Z5).
func is(t *testing.T, name string, got, want any) {
	t.Helper()
	if reflect.DeepEqual(got, want) {
		return
	}
	if g, w := fmt.Sprintf("%+v", got), fmt.Sprintf("%+v", want); g != w {
		t.Errorf("%s: got %s, want %s", name, g, w)
	}
}

// all makes one value of the results of a call.
func all(results ...any) []any { return results }

func v4(a, b, c, d uint64) api.Addr { return api.Addr{Lo: a<<24 | b<<16 | c<<8 | d} }

func six(hi, lo uint64) api.Addr { return api.Addr{Six: true, Hi: hi, Lo: lo} }

// at reads an address for a test; it stops the test if there is none.
func at(s string) api.Addr {
	a, e := addr.Loose(s)
	if e != api.OK {
		panic(s)
	}
	return a
}

// net makes a prefix, right or not, of an address and its bits.
func net(s string) api.Prefix {
	var n int
	text, bits, ok := strings.Cut(s, "/")
	if _, err := fmt.Sscan(bits, &n); !ok || err != nil {
		panic(s)
	}
	return api.Prefix{Addr: at(text), Bits: n}
}

// nets makes prefixes of a string with blanks between them.
func nets(s string) []api.Prefix {
	var out []api.Prefix
	for _, x := range strings.Fields(s) {
		out = append(out, net(x))
	}
	return out
}

// entries makes a table of a string with PREFIX=KEY and blanks between.
func entries(s string) []api.Entry {
	var out []api.Entry
	for _, x := range strings.Fields(s) {
		p, to, _ := strings.Cut(x, "=")
		out = append(out, api.Entry{Prefix: net(p), To: to})
	}
	return out
}

// leases makes leases of a string with PREFIX=KEY and blanks between.
func leases(s string) []api.Lease {
	var out []api.Lease
	for _, x := range entries(s) {
		out = append(out, api.Lease{Key: x.To, Prefix: x.Prefix})
	}
	return out
}

func pool(prefix, kept, leased string) api.Pool {
	return api.Pool{Prefix: net(prefix), Kept: nets(kept), Leases: leases(leased)}
}

// repeat makes a list of n parts.
func repeat[T any](n int, part func(i int) T) []T {
	var out []T
	for i := range n {
		out = append(out, part(i))
	}
	return out
}

// apart are n prefixes of one address with addresses between them that no other one has: a set.
func apart(n int) []api.Prefix {
	return repeat(n, func(i int) api.Prefix { return api.Prefix{Addr: api.Addr{Lo: uint64(i) * 4}, Bits: 32} })
}

// keys are n keys, rising.
func keys(n int) []string { return repeat(n, func(i int) string { return fmt.Sprintf("k%04d", i) }) }

// A world is 32 parts of the addresses of 32 bits, and 32 of those of 128 bits, so that a set is a number of 64 bits. With low, the parts are single addresses; otherwise they are all that there are.
type world struct{ low bool }

// part is the prefix of 5 bits or less at a part.
func (w world) part(cell, bits int) api.Prefix {
	p := api.Prefix{Addr: api.Addr{Six: cell >= 32}, Bits: bits}
	n := uint64(cell % 32)
	switch {
	case w.low && p.Addr.Six:
		p.Addr.Lo, p.Bits = n, bits+123
	case w.low:
		p.Addr.Lo, p.Bits = n, bits+27
	case p.Addr.Six:
		p.Addr.Hi = n << 59
	default:
		p.Addr.Lo = n << 27
	}
	return p
}

// cells are the parts of which a prefix of 5 bits or less consists.
func cells(cell, bits int) uint64 {
	n := 1 << (5 - bits)
	return (1<<n - 1) << cell
}

// set is the least list of a number, found by halving.
func (w world) set(n uint64) []api.Prefix {
	var out []api.Prefix
	var halve func(cell, bits int)
	halve = func(cell, bits int) {
		switch c := cells(cell, bits); {
		case n&c == c:
			out = append(out, w.part(cell, bits))
		case n&c != 0:
			halve(cell, bits+1)
			halve(cell+1<<(4-bits), bits+1)
		}
	}
	halve(0, 0)
	halve(32, 0)
	return out
}

// random is a number with rows of equal bits.
func random(r *rand.Rand) uint64 {
	n := r.Uint64()
	for range r.Intn(4) {
		n ^= n << r.Intn(16)
		n &= n >> r.Intn(3)
	}
	if r.Intn(2) == 0 {
		n = ^n
	}
	return n
}
