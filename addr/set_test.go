package addr_test

import (
	"fmt"
	"math/big"
	"math/bits"
	"math/rand"
	"slices"
	"strings"
	"testing"

	"holloway/addr"
	"holloway/api"
)

const allText = "340282366920938463463374607436063178752" // 2^128 and 2^32

// badSets are lists that are no sets, and their errors.
var badSets = []struct {
	name string
	l    []api.Prefix
	e    api.Errno
}{
	{"too many", apart(api.MaxSet + 1), api.ErrLarge},
	{"too many, and wrong", repeat(api.MaxSet+1, func(int) api.Prefix { return api.Prefix{Bits: -1} }), api.ErrLarge},
	{"an address", []api.Prefix{{Addr: api.Addr{Hi: 1}, Bits: 99}}, api.ErrForm},
	{"bits", nets("10.0.0.0/8 11.0.0.0/33"), api.ErrArg},
	{"bits behind", nets("10.0.0.0/8 11.0.0.1/8"), api.ErrForm},
	{"bits of one that is out of order", nets("10.0.0.0/8 9.0.0.1/8"), api.ErrForm},
	{"twice", nets("10.0.0.0/8 10.0.0.0/8"), api.ErrOrder},
	{"one address", nets("10.0.0.0/8 10.0.0.0/16"), api.ErrOrder},
	{"falling", nets("10.0.0.0/8 9.0.0.0/8"), api.ErrOrder},
	{"lengths falling", nets("::/8 9.0.0.0/8"), api.ErrOrder},
	{"order ahead of another error", nets("10.0.0.0/8 9.0.0.0/8 10.0.0.0/33"), api.ErrOrder},
	{"order ahead of a rule", nets("10.0.0.0/8 10.1.0.0/16 9.0.0.0/8"), api.ErrOrder},
	{"another error ahead of a rule", nets("10.0.0.0/8 10.1.0.0/16 11.0.0.0/33"), api.ErrArg},
	{"overlap", nets("10.0.0.0/8 10.1.0.0/16"), api.ErrRule},
	{"overlap with the last address", nets("10.0.0.0/8 10.255.255.255/32"), api.ErrRule},
	{"overlap of others between", nets("10.0.0.0/8 10.0.0.1/32 10.1.0.0/16"), api.ErrRule},
	{"overlap with all", nets("0.0.0.0/0 255.255.255.255/32"), api.ErrRule},
	{"overlap of the other length", nets("10.0.0.0/8 ::/0 ::1/128"), api.ErrRule},
	{"halves", nets("10.0.0.0/9 10.128.0.0/9"), api.ErrRule},
	{"halves of all", nets("0.0.0.0/1 128.0.0.0/1"), api.ErrRule},
	{"halves at the end", nets("10.0.0.0/8 255.255.255.254/32 255.255.255.255/32"), api.ErrRule},
	{"halves of the other length", nets("::/1 8000::/1"), api.ErrRule},
	{"halves of single addresses", nets("::2/128 ::3/128"), api.ErrRule},
	{"halves in the middle", nets("1::/64 1:0:0:1::/64"), api.ErrRule},
}

// P1.3, Z4
func TestCheckSet(t *testing.T) {
	for _, s := range []string{"", "0.0.0.0/0", "::/0", "0.0.0.0/0 ::/0", "10.0.0.0/8 11.0.0.0/9", "10.128.0.0/9 11.0.0.0/9", "10.0.0.1/32 10.0.0.2/31 10.0.0.4/32", "255.255.255.255/32 ::/128", "::1/128 ::2/128", "0.0.0.0/1 ::/1"} {
		is(t, "CheckSet "+s, addr.CheckSet(nets(s)), api.OK)
	}
	is(t, "CheckSet", addr.CheckSet(apart(api.MaxSet)), api.OK)
	for _, c := range badSets {
		is(t, c.name, addr.CheckSet(c.l), c.e)
	}
}

// P1.3, Z4: functions with sets have the errors of CheckSet first, in order.
func TestErrorsOfSets(t *testing.T) {
	good, worse := nets("1.0.0.0/8"), []api.Prefix{{Bits: -7}}
	wrong := api.Addr{Hi: 1}
	for _, c := range badSets {
		if c.e == api.ErrArg {
			worse = nets("2.0.0.0/8 1.0.0.0/8")
		}
		is(t, "Ranges", all(addr.Ranges(c.l)), all(nets(""), c.e))
		is(t, "Rest", all(addr.Rest(c.l)), all(nets(""), c.e))
		is(t, "Has", all(addr.Has(c.l, wrong)), all(false, c.e))
		is(t, "Size", all(addr.Size(c.l)), all("", c.e))
		is(t, "SetText", all(addr.SetText(c.l)), all("", c.e))
		is(t, "Covers", all(addr.Covers(c.l, worse)), all(false, c.e))
		is(t, "Covers", all(addr.Covers(good, c.l)), all(false, c.e))
		for _, f := range []func(a, b []api.Prefix) ([]api.Prefix, api.Errno){addr.Union, addr.Both, addr.Without} {
			is(t, c.name, all(f(c.l, worse)), all(nets(""), c.e))
			is(t, c.name, all(f(good, c.l)), all(nets(""), c.e))
		}
	}
	for _, a := range wrongAddrs {
		is(t, "Has", all(addr.Has(good, a)), all(false, api.ErrForm))
	}
}

// P1.3
func TestLeast(t *testing.T) {
	for _, c := range [][2]string{
		{"", ""},
		{"10.0.1.0/24 10.0.0.0/24 10.0.0.0/25", "10.0.0.0/23"},
		{"10.0.0.0/8 10.0.0.0/8 10.0.0.0/8", "10.0.0.0/8"},
		{"10.0.0.0/8 10.0.0.0/16 10.255.0.0/16 10.7.7.7/32", "10.0.0.0/8"},
		{"10.7.7.7/32 10.0.0.0/8 9.0.0.0/8", "9.0.0.0/8 10.0.0.0/8"},
		{"10.0.0.0/9 11.0.0.0/8 10.128.0.0/10 10.192.0.0/10", "10.0.0.0/7"},
		{"128.0.0.0/1 0.0.0.0/1", "0.0.0.0/0"},
		{"8000::/1 255.255.255.255/32 ::/1", "255.255.255.255/32 ::/0"},
		{"255.255.255.255/32 ::/128", "255.255.255.255/32 ::/128"},
		{"::2/128 ::3/128 ::1/128", "::1/128 ::2/127"},
		{"::ffff:ffff:ffff:ffff/128 0:0:0:1::/128", "::ffff:ffff:ffff:ffff/128 0:0:0:1::/128"},
		{"1:0:0:1::/64 1::/64", "1::/63"},
	} {
		is(t, "Least "+c[0], all(addr.Least(nets(c[0]))), all(nets(c[1]), api.OK))
	}
	halves := repeat(api.MaxSet, func(i int) api.Prefix {
		return api.Prefix{Addr: api.Addr{Lo: uint64(api.MaxSet - 1 - i)}, Bits: 32}
	})
	is(t, "Least", all(addr.Least(halves)), all(nets("0.0.0.0/23 0.0.2.0/24 0.0.3.0/25 0.0.3.128/26 0.0.3.192/27 0.0.3.224/29"), api.OK))
	is(t, "Least", all(addr.Least(apart(api.MaxSet))), all(apart(api.MaxSet), api.OK))
	is(t, "Least", all(addr.Least(append(nets("0.0.0.0/33"), apart(api.MaxSet)...))), all(nets(""), api.ErrLarge))
	is(t, "Least", all(addr.Least(nets("10.0.0.0/8 10.0.0.0/8 10.0.0.0/33 10.0.0.1/8"))), all(nets(""), api.ErrArg))
	is(t, "Least", all(addr.Least(nets("10.0.0.1/8 10.0.0.0/33"))), all(nets(""), api.ErrForm))
}

func span(first, last string) api.Range { return api.Range{First: at(first), Last: at(last)} }

// P1.3
func TestSpan(t *testing.T) {
	top := "ffff:ffff:ffff:ffff:ffff:ffff:ffff:ffff"
	for _, c := range []struct {
		r    api.Range
		want string
	}{
		{span("10.0.0.1", "10.0.0.4"), "10.0.0.1/32 10.0.0.2/31 10.0.0.4/32"},
		{span("0.0.0.0", "255.255.255.255"), "0.0.0.0/0"},
		{span("0.0.0.0", "0.0.0.0"), "0.0.0.0/32"},
		{span("255.255.255.255", "255.255.255.255"), "255.255.255.255/32"},
		{span("0.0.0.0", "127.255.255.255"), "0.0.0.0/1"},
		{span("10.0.0.0", "10.0.0.2"), "10.0.0.0/31 10.0.0.2/32"},
		{span("::", top), "::/0"},
		{span("::", "::"), "::/128"},
		{span(top, top), top + "/128"},
		{span("8000::", top), "8000::/1"},
		{span("4000::", "bfff:ffff:ffff:ffff:ffff:ffff:ffff:ffff"), "4000::/2 8000::/2"},
		{span("0:0:0:1::", "0:0:0:2:ffff:ffff:ffff:ffff"), "0:0:0:1::/64 0:0:0:2::/64"},
		{span("::ffff:ffff:ffff:ffff", "0:0:0:1::"), "::ffff:ffff:ffff:ffff/128 0:0:0:1::/128"},
		{span("::", "0:0:0:1::"), "::/64 0:0:0:1::/128"},
	} {
		is(t, "Span", all(addr.Span(c.r)), all(nets(c.want), api.OK))
	}
	for _, a := range wrongAddrs {
		is(t, "Span", all(addr.Span(api.Range{First: a, Last: six(0, 0)})), all(nets(""), api.ErrForm))
		is(t, "Span", all(addr.Span(api.Range{First: six(0, 0), Last: a})), all(nets(""), api.ErrForm))
	}
	is(t, "Span", all(addr.Span(span("1.2.3.4", "::"))), all(nets(""), api.ErrType))
	is(t, "Span", all(addr.Span(span("::", "1.2.3.4"))), all(nets(""), api.ErrType))
	is(t, "Span", all(addr.Span(span("1.2.3.5", "1.2.3.4"))), all(nets(""), api.ErrOrder))
	is(t, "Span", all(addr.Span(span("1::", "::1"))), all(nets(""), api.ErrOrder))
	long, e := addr.Span(api.Range{First: six(0, 1), Last: six(1<<64-1, 1<<64-2)})
	is(t, "Span", all(len(long), addr.CheckSet(long), e), all(254, api.OK, api.OK))
}

// P1.3: Span returns a set of the range and nothing else; the Least of it is the same.
func TestSpanOfAny(t *testing.T) {
	r := rand.New(rand.NewSource(4))
	for range 2_000 {
		x := api.Range{First: withGroups(r), Last: withGroups(r)}
		if r.Intn(2) == 0 {
			x = api.Range{First: api.Addr{Lo: uint64(r.Uint32() >> r.Intn(32))}, Last: api.Addr{Lo: uint64(r.Uint32())}}
		}
		if addr.Compare(x.First, x.Last) > 0 {
			x.First, x.Last = x.Last, x.First
		}
		s, e := addr.Span(x)
		is(t, "Span", all(addr.CheckSet(s), e), all(api.OK, api.OK))
		is(t, "Ranges", all(addr.Ranges(s)), all([]api.Range{x}, api.OK))
		is(t, "Least", all(addr.Least(s)), all(s, api.OK))
	}
}

// P1.3
func TestRanges(t *testing.T) {
	top := "ffff:ffff:ffff:ffff:ffff:ffff:ffff:ffff"
	for _, c := range []struct {
		s    string
		want []api.Range
	}{
		{"", nil},
		{"10.0.0.1/32 10.0.0.2/31 10.0.0.4/32", []api.Range{span("10.0.0.1", "10.0.0.4")}},
		{"10.0.0.1/32 10.0.0.3/32", []api.Range{span("10.0.0.1", "10.0.0.1"), span("10.0.0.3", "10.0.0.3")}},
		{"0.0.0.0/0 ::/0", []api.Range{span("0.0.0.0", "255.255.255.255"), span("::", top)}},
		{"255.255.255.255/32 ::/128 ::1:0/112", []api.Range{span("255.255.255.255", "255.255.255.255"), span("::", "::"), span("::1:0", "::1:ffff")}},
		{"::ffff:ffff:ffff:ffff/128 0:0:0:1::/128", []api.Range{span("::ffff:ffff:ffff:ffff", "0:0:0:1::")}},
	} {
		is(t, "Ranges "+c.s, all(addr.Ranges(nets(c.s))), all(c.want, api.OK))
	}
	l, e := addr.Ranges(apart(api.MaxSet))
	is(t, "Ranges", all(len(l), e), all(api.MaxSet, api.OK))
}

// rangesOf are the ranges of a set of a world, part by part.
func rangesOf(w world, n uint64) []api.Range {
	var out []api.Range
	for cell := range 64 {
		if n>>cell&1 == 0 {
			continue
		}
		p := w.part(cell, 5)
		last, _ := addr.Last(p)
		if cell%32 > 0 && n>>(cell-1)&1 == 1 {
			out[len(out)-1].Last = last
		} else {
			out = append(out, api.Range{First: p.Addr, Last: last})
		}
	}
	return out
}

// P1.3: sets of two small worlds are as numbers whose bits are combined.
func TestSetsLikeBits(t *testing.T) {
	r := rand.New(rand.NewSource(5))
	for i := range 4_000 {
		w := world{low: i%2 == 0}
		n, m := random(r), random(r)
		a, b := w.set(n), w.set(m)
		is(t, "CheckSet", addr.CheckSet(a), api.OK)
		is(t, "Union", all(addr.Union(a, b)), all(w.set(n|m), api.OK))
		is(t, "Both", all(addr.Both(a, b)), all(w.set(n&m), api.OK))
		is(t, "Without", all(addr.Without(a, b)), all(w.set(n&^m), api.OK))
		is(t, "Covers", all(addr.Covers(a, b)), all(m&^n == 0, api.OK))
		is(t, "Covers", all(addr.Covers(a, w.set(n&m))), all(true, api.OK))
		is(t, "Ranges", all(addr.Ranges(a)), all(rangesOf(w, n), api.OK))
		rest, e := addr.Rest(a)
		if !w.low {
			is(t, "Rest", all(rest, e), all(w.set(^n), api.OK))
		}
		is(t, "Rest", all(addr.Rest(rest)), all(a, api.OK))
		is(t, "Union", all(addr.Union(a, rest)), all(nets("0.0.0.0/0 ::/0"), api.OK))
		is(t, "Both", all(addr.Both(a, rest)), all(nets(""), api.OK))
		is(t, "Without", all(addr.Without(nets("0.0.0.0/0 ::/0"), a)), all(rest, api.OK))
		cell := r.Intn(64)
		is(t, "Has", all(addr.Has(a, w.part(cell, 5).Addr)), all(n>>cell&1 == 1, api.OK))
		last, _ := addr.Last(w.part(cell, 5))
		is(t, "Has", all(addr.Has(a, last)), all(n>>cell&1 == 1, api.OK))
		if w.low {
			is(t, "Size", all(addr.Size(a)), all(fmt.Sprint(bits.OnesCount64(n)), api.OK))
		}
	}
}

// P1.3: Least finds the set of parts in any order.
func TestLeastLikeBits(t *testing.T) {
	r := rand.New(rand.NewSource(6))
	for i := range 2_000 {
		w := world{low: i%2 == 0}
		var l []api.Prefix
		var n uint64
		for range r.Intn(20) {
			bits := r.Intn(6)
			cell := r.Intn(64) >> (5 - bits) << (5 - bits)
			l = append(l, w.part(cell, bits))
			n |= cells(cell, bits)
		}
		is(t, "Least", all(addr.Least(l)), all(w.set(n), api.OK))
	}
}

// P1.3
func TestHas(t *testing.T) {
	s := nets("0.0.0.0/8 10.0.0.0/8 1::/64 ffff::/16")
	for _, c := range []struct {
		a    string
		want bool
	}{
		{"0.0.0.0", true}, {"0.255.255.255", true}, {"1.0.0.0", false}, {"9.255.255.255", false}, {"10.0.0.0", true}, {"10.255.255.255", true}, {"11.0.0.0", false}, {"255.255.255.255", false},
		{"::", false}, {"1::", true}, {"1::ffff:ffff:ffff:ffff", true}, {"1:0:0:1::", false}, {"ffff:ffff:ffff:ffff:ffff:ffff:ffff:ffff", true}, {"::a00:0", false},
	} {
		is(t, "Has "+c.a, all(addr.Has(s, at(c.a))), all(c.want, api.OK))
	}
	is(t, "Has", all(addr.Has(nil, api.Addr{})), all(false, api.OK))
}

// P1.3
func TestCovers(t *testing.T) {
	for _, c := range []struct {
		a, b string
		want bool
	}{
		{"", "", true}, {"10.0.0.0/8", "", true}, {"", "10.0.0.0/32", false}, {"10.0.0.0/8", "10.0.0.1/32 10.0.0.2/31", true}, {"10.0.0.1/32 10.0.0.2/31 10.0.0.4/32", "10.0.0.2/31", true},
		{"10.0.0.0/9", "10.0.0.0/8", false}, {"0.0.0.0/0", "::/128", false}, {"::/0", "0.0.0.0/32", false}, {"0.0.0.0/0 ::/0", "1.2.3.4/32 ::7/128", true}, {"10.0.0.0/32 10.0.0.2/32", "10.0.0.0/31", false},
	} {
		is(t, "Covers", all(addr.Covers(nets(c.a), nets(c.b))), all(c.want, api.OK))
	}
}

// bound are two sets with so many prefixes, of which each one lies in the great prefix of the other.
func bound(n, m int) (a, b []api.Prefix) {
	low := func(hi uint64) func(i int) api.Prefix {
		return func(i int) api.Prefix { return api.Prefix{Addr: six(hi, uint64(i)*2), Bits: 128} }
	}
	a = append(nets("::/64"), repeat(n, low(2))...)
	b = append(repeat(m, low(0)), nets("0:0:0:2::/64")...)
	return a, b
}

// P1.3: the bounds of what a set can have.
func TestLargeSets(t *testing.T) {
	a, b := apart(api.MaxSet), nets("::/128")
	is(t, "Union", all(addr.Union(a, b)), all(nets(""), api.ErrLarge))
	is(t, "Union", all(addr.Union(a[1:], b)), all(append(slices.Clone(a[1:]), b...), api.OK))
	is(t, "Union", all(addr.Union(a, a)), all(a, api.OK))
	is(t, "Union", all(addr.Union(a, nets("0.0.0.0/20"))), all(nets("0.0.0.0/20"), api.OK))

	a, b = bound(500, 500)
	s, e := addr.Both(a, b)
	is(t, "Both", all(len(s), addr.CheckSet(s), e), all(api.MaxSet, api.OK, api.OK))
	a, b = bound(500, 501)
	is(t, "Both", all(addr.Both(a, b)), all(nets(""), api.ErrLarge))
	is(t, "Covers", all(addr.Covers(a, b)), all(false, api.OK))
	is(t, "Covers", all(addr.Covers(b, a)), all(false, api.OK))
}

// P1.3: without one address of each of its eight parts, ::/0 is 8 times 125 prefixes.
func TestLargeRest(t *testing.T) {
	ones := repeat(8, func(i int) api.Prefix { return api.Prefix{Addr: six(uint64(i)<<61, 0), Bits: 128} })
	s, e := addr.Without(nets("::/0"), ones)
	is(t, "Without", all(len(s), addr.CheckSet(s), e), all(api.MaxSet, api.OK, api.OK))
	is(t, "Without", all(addr.Without(nets("0.0.0.0/32 ::/0"), ones)), all(nets(""), api.ErrLarge))
	is(t, "Rest", all(addr.Rest(append(nets("0.0.0.0/0"), ones...))), all(s, api.OK))
	is(t, "Rest", all(addr.Rest(ones)), all(nets(""), api.ErrLarge))
	is(t, "Rest", all(addr.Rest(nil)), all(nets("0.0.0.0/0 ::/0"), api.OK))
	is(t, "Rest", all(addr.Rest(nets("0.0.0.0/0 ::/0"))), all(nets(""), api.OK))
}

// P1.3
func TestSize(t *testing.T) {
	for _, c := range [][2]string{
		{"", "0"}, {"1.2.3.4/32", "1"}, {"::5/128", "1"}, {"10.0.0.1/32 10.0.0.2/31 10.0.0.4/32", "4"}, {"10.0.0.0/8", "16777216"}, {"0.0.0.0/0", "4294967296"}, {"1::/64", "18446744073709551616"},
		{"1::/65", "9223372036854775808"}, {"1::/63", "36893488147419103232"}, {"::/1", "170141183460469231731687303715884105728"}, {"::/0", "340282366920938463463374607431768211456"}, {"0.0.0.0/0 ::/0", allText},
		{"0.0.0.0/32 ::/128 1::/64 3::/64", "36893488147419103234"},
	} {
		is(t, "Size "+c[0], all(addr.Size(nets(c[0]))), all(c[1], api.OK))
	}
}

func number(t *testing.T, s []api.Prefix) *big.Int {
	text, e := addr.Size(s)
	n, ok := new(big.Int).SetString(text, 10)
	if e != api.OK || !ok || n.String() != text {
		t.Fatalf("Size: %q, %v", text, e)
	}
	return n
}

// P1.3: Size of Union and of Both together are those of both sets; that of a set and its rest are all.
func TestSizesOfUnionAndBoth(t *testing.T) {
	r := rand.New(rand.NewSource(7))
	some := func() []api.Prefix {
		l := repeat(r.Intn(6), func(int) api.Prefix {
			p, _ := addr.Mask(withGroups(r), r.Intn(129))
			if r.Intn(2) == 0 {
				p, _ = addr.Mask(api.Addr{Lo: uint64(r.Uint32() >> r.Intn(32))}, r.Intn(33))
			}
			return p
		})
		s, _ := addr.Least(l)
		return s
	}
	for range 1_000 {
		a, b := some(), some()
		union, _ := addr.Union(a, b)
		both, _ := addr.Both(a, b)
		left := new(big.Int).Add(number(t, union), number(t, both))
		right := new(big.Int).Add(number(t, a), number(t, b))
		is(t, "Size", left, right)
		rest, e := addr.Rest(a)
		if e == api.OK {
			is(t, "Size", new(big.Int).Add(number(t, a), number(t, rest)).String(), allText)
		}
		sum := new(big.Int)
		for _, p := range a {
			length := 32
			if p.Addr.Six {
				length = 128
			}
			sum.Add(sum, new(big.Int).Lsh(big.NewInt(1), uint(length-p.Bits)))
		}
		is(t, "Size", number(t, a), sum)
	}
}

// P1.4
func TestSetText(t *testing.T) {
	for _, c := range [][2]string{
		{"", ""}, {"10.0.0.0/8", "10.0.0.0/8\n"}, {"0.0.0.0/0 ::/0", "0.0.0.0/0\n::/0\n"}, {"10.0.0.1/32 10.0.0.2/31 2001:db8::/32", "10.0.0.1/32\n10.0.0.2/31\n2001:db8::/32\n"},
	} {
		is(t, "SetText", all(addr.SetText(nets(c[0]))), all(c[1], api.OK))
		is(t, "ReadSet", all(addr.ReadSet(c[1])), all(nets(c[0]), 0, api.OK))
	}
	text, e := addr.SetText(apart(api.MaxSet))
	is(t, "SetText", e, api.OK)
	is(t, "ReadSet", all(addr.ReadSet(text)), all(apart(api.MaxSet), 0, api.OK))
}

// P1.4, Z9
func TestReadSet(t *testing.T) {
	for _, c := range []struct {
		text string
		line int
		e    api.Errno
	}{
		{"x", 0, api.ErrSyntax}, {"\n", 0, api.ErrSyntax}, {"10.0.0.0/8", 0, api.ErrSyntax}, {"10.0.0.0/8\nx\n", 1, api.ErrSyntax}, {"10.0.0.0/8\n\n", 1, api.ErrSyntax}, {"10.0.0.0/8\n11.0.0.0/8", 1, api.ErrSyntax},
		{"10.0.0.0/8\n12.0.0.0/8\n14.0.0.0/8\n16.0.0.1/8\ny\n", 3, api.ErrSyntax}, {"10.0.0.0/8\r\n", 0, api.ErrSyntax}, {"10.0.0.0/8 \n", 0, api.ErrSyntax}, {" 10.0.0.0/8\n", 0, api.ErrSyntax},
		{"10.0.0.0/33\n", 0, api.ErrSyntax}, {"10.0.0.0/8\n10.1.0.0/16\n10.0.0.0/8", 2, api.ErrSyntax}, {"10.0.0.0/8,11.0.0.0/8\n", 0, api.ErrSyntax}, {"10.0.0.0/8\n::0/0\n", 1, api.ErrSyntax},
		{"10.0.0.0/8\n10.1.0.0/16\n", 0, api.ErrRule}, {"10.0.0.0/8\n11.0.0.0/8\n", 0, api.ErrRule}, {"12.0.0.0/8\n10.0.0.0/8\n", 0, api.ErrOrder}, {"10.0.0.0/8\n10.0.0.0/8\n", 0, api.ErrOrder}, {"::/0\n0.0.0.0/0\n", 0, api.ErrOrder},
	} {
		is(t, "ReadSet "+c.text, all(addr.ReadSet(c.text)), all(nets(""), c.line, c.e))
	}
	long := strings.Repeat("1.2.3.4/32\n", 1_001)
	is(t, "ReadSet", all(addr.ReadSet(long)), all(nets(""), 0, api.ErrLarge))
	is(t, "ReadSet", all(addr.ReadSet(long+"x\n")), all(nets(""), 1_001, api.ErrSyntax))
	full := strings.Repeat("x", api.MaxText)
	is(t, "ReadSet", all(addr.ReadSet(full)), all(nets(""), 0, api.ErrSyntax))
	is(t, "ReadSet", all(addr.ReadSet(full+"x")), all(nets(""), 0, api.ErrLarge))
	is(t, "ReadSet", all(addr.ReadSet("10.0.0.0/8\n"+full)), all(nets(""), 0, api.ErrLarge))
}
