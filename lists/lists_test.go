package lists

import (
	"cmp"
	"fmt"
	"slices"
	"testing"

	"holloway/api"
)

// A part has a place in the order, and something else.
type part struct{ place, rest int }

func compare(x, y part) int { return cmp.Compare(x.place, y.place) }

// P7.1, P7.6, Z2, Z4
func TestMerge(t *testing.T) {
	for _, c := range []struct {
		a, b, want []part
		e          api.Errno
	}{
		{nil, nil, nil, api.OK},
		{[]part{{1, 1}}, nil, []part{{1, 1}}, api.OK},
		{[]part{{1, 1}}, []part{{1, 1}}, []part{{1, 1}}, api.OK},
		{[]part{{1, 1}, {5, 0}}, []part{{0, 9}, {3, 0}}, []part{{0, 9}, {1, 1}, {3, 0}, {5, 0}}, api.OK},
		{[]part{{1, 1}, {5, 0}}, []part{{1, 1}, {3, 0}, {5, 0}, {6, 0}}, []part{{1, 1}, {3, 0}, {5, 0}, {6, 0}}, api.OK},
		{[]part{{1, 1}}, []part{{1, 2}}, nil, api.ErrConflict},
		{[]part{{1, 1}, {5, 0}}, []part{{2, 0}, {5, 1}}, nil, api.ErrConflict},
		{[]part{{1, 1}, {2, 0}, {3, 0}}, []part{{4, 0}, {5, 0}}, nil, api.ErrLarge},
		{[]part{{1, 1}, {2, 0}, {3, 0}}, []part{{3, 0}, {4, 0}}, []part{{1, 1}, {2, 0}, {3, 0}, {4, 0}}, api.OK},
		{[]part{{1, 1}, {2, 0}, {3, 0}}, []part{{3, 1}, {4, 0}, {5, 0}}, nil, api.ErrConflict},
	} {
		before := fmt.Sprint(c.a, c.b)
		for _, pair := range [][2][]part{{c.a, c.b}, {c.b, c.a}} {
			got, e := Merge(pair[0], pair[1], 4, compare)
			if !slices.Equal(got, c.want) || e != c.e {
				t.Errorf("%v: %v, %v", pair, got, e)
			}
			for i := range got {
				got[i] = part{}
			}
		}
		if after := fmt.Sprint(c.a, c.b); after != before {
			t.Errorf("%s became %s", before, after)
		}
	}
}

// P8.2, Z2: it is a list of its own.
func TestMap(t *testing.T) {
	double := func(n int) int { return 2 * n }
	l := []int{3, 1, 2, 9}
	out := Map(l[:3], double)
	if !slices.Equal(out, []int{6, 2, 4}) {
		t.Errorf("%v", out)
	}
	out[0] = 7
	_ = append(out, 8)
	if !slices.Equal(l, []int{3, 1, 2, 9}) {
		t.Errorf("%v", l)
	}
	for _, none := range [][]int{nil, {}} {
		if out := Map(none, double); len(out) > 0 {
			t.Errorf("%v", out)
		}
	}
}

// P9.2, P9.4, Z2: parts with one place are joined as they come in the list.
func TestGather(t *testing.T) {
	join := func(x, y part) part { return part{x.place, 10*x.rest + y.rest} }
	for _, c := range []struct{ l, want []part }{
		{nil, nil},
		{[]part{}, nil},
		{[]part{{1, 1}}, []part{{1, 1}}},
		{[]part{{2, 1}, {1, 2}}, []part{{1, 2}, {2, 1}}},
		{[]part{{1, 1}, {1, 2}}, []part{{1, 12}}},
		{[]part{{1, 2}, {1, 1}}, []part{{1, 21}}},
		{[]part{{2, 1}, {1, 1}, {2, 2}, {3, 5}, {1, 2}, {2, 3}}, []part{{1, 12}, {2, 123}, {3, 5}}},
		{[]part{{1, 1}, {2, 1}, {1, 1}}, []part{{1, 11}, {2, 1}}},
	} {
		before := fmt.Sprint(c.l)
		got := Gather(c.l, compare, join)
		if !slices.Equal(got, c.want) {
			t.Errorf("%v: %v", c.l, got)
		}
		for i := range got {
			got[i] = part{}
		}
		if after := fmt.Sprint(c.l); after != before {
			t.Errorf("%s became %s", before, after)
		}
	}
	// With many parts, too.
	var l []part
	for i := range 1_000 {
		l = append(l, part{place: i * 7 % 10, rest: i})
	}
	last := func(x, y part) part {
		if y.rest < x.rest {
			t.Errorf("%v ahead of %v", x, y)
		}
		return y
	}
	for i, x := range Gather(l, compare, last) {
		if x.place != i || x.rest < 990 {
			t.Errorf("%d: %v", i, x)
		}
	}
}
