package span

import (
	"math"
	"reflect"
	"slices"
	"testing"

	"holloway/api"
)

var (
	top4 = api.Addr{Lo: math.MaxUint32}
	top6 = api.Addr{Six: true, Hi: math.MaxUint64, Lo: math.MaxUint64}
)

func from(first, last uint64) api.Range {
	return api.Range{First: api.Addr{Lo: first}, Last: api.Addr{Lo: last}}
}

func is(t *testing.T, name string, got, want any) {
	t.Helper()
	if !reflect.DeepEqual(got, want) {
		t.Errorf("%s: got %+v, want %+v", name, got, want)
	}
}

// P1.3
func TestNeighbours(t *testing.T) {
	for _, c := range []struct{ a, b api.Addr }{
		{api.Addr{}, api.Addr{Lo: 1}},
		{api.Addr{Lo: math.MaxUint32 - 1}, top4},
		{api.Addr{Six: true, Lo: math.MaxUint32}, api.Addr{Six: true, Lo: math.MaxUint32 + 1}},
		{api.Addr{Six: true, Hi: 4, Lo: math.MaxUint64}, api.Addr{Six: true, Hi: 5}},
	} {
		b, ok := next(c.a)
		is(t, "next", b, c.b)
		is(t, "next", ok, true)
		is(t, "before", before(c.b), c.a)
	}
	for _, a := range []api.Addr{top4, top6} {
		b, ok := next(a)
		is(t, "next", b, api.Addr{})
		is(t, "next", ok, false)
	}
}

// P1.5, P5.1
func TestComparePrefixes(t *testing.T) {
	rising := []api.Prefix{{}, {Bits: 8}, {Addr: api.Addr{Lo: 1}, Bits: 32}, {Addr: api.Addr{Lo: 2}, Bits: 31}, {Addr: api.Addr{Six: true}}, {Addr: api.Addr{Six: true}, Bits: 1}, {Addr: api.Addr{Six: true, Hi: 1}, Bits: 64}}
	for i, p := range rising {
		for k, q := range rising {
			is(t, "ComparePrefixes", ComparePrefixes(p, q), Compare(api.Addr{Lo: uint64(i)}, api.Addr{Lo: uint64(k)}))
		}
	}
}

// P1.3
func TestJoin(t *testing.T) {
	six := api.Range{First: api.Addr{Six: true}, Last: top6}
	for _, c := range []struct{ l, want []api.Range }{
		{nil, nil},
		{[]api.Range{from(7, 9), from(1, 2), from(3, 3)}, []api.Range{from(1, 3), from(7, 9)}},
		{[]api.Range{from(1, 9), from(2, 3), from(9, 12), from(14, 14)}, []api.Range{from(1, 12), from(14, 14)}},
		{[]api.Range{six, from(0, math.MaxUint32), from(5, math.MaxUint32)}, []api.Range{from(0, math.MaxUint32), six}},
	} {
		l := slices.Clone(c.l)
		is(t, "Join", Join(l), c.want)
		is(t, "Join", l, c.l)
	}
}

// P1.3
func TestHas(t *testing.T) {
	l := []api.Range{from(1, 3), from(7, 7), from(9, math.MaxUint32)}
	for n, want := range []bool{false, true, true, true, false, false, false, true, false, true, true} {
		is(t, "Has", Has(l, api.Addr{Lo: uint64(n)}), want)
		is(t, "Has", Has(l, api.Addr{Six: true, Lo: uint64(n)}), false)
	}
	is(t, "Has", Has(l, top4), true)
}

// P8.1: ranges are held against the addresses one by one.
func TestMeets(t *testing.T) {
	six := func(first, last uint64) api.Range {
		return api.Range{First: api.Addr{Six: true, Lo: first}, Last: api.Addr{Six: true, Lo: last}}
	}
	for bits := range 1 << 7 {
		var parts []api.Range
		for n := range uint64(7) {
			if bits>>n&1 == 1 {
				parts = append(parts, from(n, n))
			}
		}
		l := Join(parts)
		for first := range uint64(7) {
			for last := first; last < 7; last++ {
				want := bits>>first&(1<<(last-first+1)-1) != 0
				is(t, "Meets", Meets(l, from(first, last)), want)
				is(t, "of both lengths", Meets(append(l, six(9, 9)), from(first, last)), want)
				is(t, "of the other length", Meets(l, six(first, last)), false)
				is(t, "of the other length", Meets(append(l, six(9, 9)), six(first, last)), false)
			}
		}
	}
	is(t, "Meets", Meets([]api.Range{from(7, 7)}, from(0, math.MaxUint32)), true)
	is(t, "Meets", Meets([]api.Range{from(0, math.MaxUint32)}, from(7, 7)), true)
	is(t, "Meets", Meets([]api.Range{six(5, 9)}, six(9, 12)), true)
	is(t, "Meets", Meets([]api.Range{six(5, 9)}, six(10, 12)), false)
}

// P3.1, P4.2
func TestSingles(t *testing.T) {
	is(t, "Singles", Singles([]api.Addr{{Lo: 7}, {Lo: 6}, {Six: true, Hi: 1}}), []api.Range{from(7, 7), from(6, 6), {First: api.Addr{Six: true, Hi: 1}, Last: api.Addr{Six: true, Hi: 1}}})
	is(t, "Singles", len(Singles(nil)), 0)
}

// P4.3: lists are held against the addresses one by one.
func TestCovers(t *testing.T) {
	six := api.Range{First: api.Addr{Six: true}, Last: top6}
	for i := range 1 << 12 {
		var lists [2][]api.Range
		for k := range 6 {
			for n := range lists {
				if i>>(6*n+k)&1 == 1 {
					lists[n] = append(lists[n], from(uint64(k), uint64(k)))
				}
			}
		}
		a, b := Join(lists[0]), Join(lists[1])
		want := i>>6&^i&63 == 0
		is(t, "Covers", Covers(a, b), want)
		is(t, "Covers", Covers(append(a, six), b), want)
		is(t, "Covers", Covers(append(a, six), append(b, six)), want)
		is(t, "Covers", Covers(a, append(b, six)), false)
	}
}

// P1.5: ranges of the lists can overlap.
func TestCuts(t *testing.T) {
	at := func(n uint64) api.Addr { return api.Addr{Lo: n} }
	want := []api.Addr{at(0), at(2), at(3), at(5), at(10), {Six: true}}
	is(t, "Cuts", Cuts([]api.Range{from(2, 9), from(3, 4)}, []api.Range{from(3, math.MaxUint32)}), want)
	is(t, "Cuts", Cuts(), []api.Addr{{}, {Six: true}})
	is(t, "Cuts", Cuts([]api.Range{{First: api.Addr{Six: true, Lo: 4}, Last: top6}}), []api.Addr{{}, {Six: true}, {Six: true, Lo: 4}})
}

// P3.4: it is asked once for each cut; neighbours are joined, but not those of two lengths.
func TestWhere(t *testing.T) {
	cuts := Cuts([]api.Range{from(2, 2), from(5, 9)}, []api.Range{{First: api.Addr{Six: true, Lo: 4}, Last: top6}})
	var asked []api.Addr
	got := Where(cuts, func(a api.Addr) bool {
		asked = append(asked, a)
		return a.Lo != 3 && a.Lo != 4
	})
	is(t, "Where", asked, cuts)
	is(t, "Where", got, []api.Range{from(0, 2), from(5, math.MaxUint32), {First: api.Addr{Six: true}, Last: api.Addr{Six: true, Lo: 3}}})
	is(t, "Where", len(Where(cuts, func(api.Addr) bool { return false })), 0)
}

// P1.3: lists have no limit here.
func TestLongLists(t *testing.T) {
	var odd, even []api.Prefix
	for i := range uint64(5_000) {
		odd = append(odd, api.Prefix{Addr: api.Addr{Lo: 2*i + 1}, Bits: 32})
		even = append(even, api.Prefix{Addr: api.Addr{Lo: 2 * i}, Bits: 32})
	}
	a, b := Of(odd), Of(even)
	is(t, "Prefixes", slices.Collect(Prefixes(a)), odd)
	is(t, "Combine", Combine(a, b, func(inA, inB bool) bool { return inA || inB }), []api.Range{from(0, 9_999)})
	is(t, "Combine", Combine(a, b, func(inA, inB bool) bool { return inB && !inA }), b)
	for p := range Prefixes(a) {
		is(t, "Prefixes", p, odd[0])
		break
	}
}
