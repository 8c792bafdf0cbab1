package times

import (
	"math"
	"slices"
	"testing"

	"holloway/api"
)

// Z11
func TestIsMoment(t *testing.T) {
	for _, c := range []struct {
		at   int
		want bool
	}{
		{0, true}, {1, true}, {api.DayLong, true}, {api.End - 1, true}, {api.End, false}, {-1, false}, {math.MinInt, false}, {math.MaxInt, false},
	} {
		if got := IsMoment(c.at); got != c.want {
			t.Errorf("%d: %v", c.at, got)
		}
	}
}

// Z6, Z11
func TestIsWindow(t *testing.T) {
	for _, w := range []api.Window{{}, {From: 0, To: 1}, {From: 5, To: 5}, {From: 0, To: api.End}, {From: api.End, To: api.End}, {From: api.End - 1, To: api.End}} {
		if !IsWindow(w) {
			t.Errorf("%v is a window", w)
		}
	}
	for _, w := range []api.Window{{From: -1, To: 0}, {From: -1, To: -1}, {From: 1, To: 0}, {From: 0, To: -1}, {From: 0, To: api.End + 1}, {From: api.End + 1, To: api.End + 1}, {From: math.MinInt, To: math.MaxInt}, {From: math.MaxInt, To: math.MinInt}, {From: 0, To: math.MaxInt}} {
		if IsWindow(w) {
			t.Errorf("%v is no window", w)
		}
	}
}

// Windows are from From on, and before To: Shared counts moments.
func TestShared(t *testing.T) {
	in := func(w api.Window, at int) bool { return w.From <= at && at < w.To }
	for a := range 6 {
		for b := a; b < 6; b++ {
			for c := range 6 {
				for d := c; d < 6; d++ {
					v, w, want := api.Window{From: a, To: b}, api.Window{From: c, To: d}, 0
					for at := range 6 {
						if in(v, at) && in(w, at) {
							want++
						}
					}
					if got := Shared(v, w); got != want {
						t.Errorf("%v, %v: %d", v, w, got)
					}
				}
			}
		}
	}
}

// some are windows from 0 to 6, up to three of them.
func some(yield func(l []api.Window)) {
	var windows []api.Window
	for a := range 7 {
		for b := a; b < 7; b++ {
			windows = append(windows, api.Window{From: a, To: b})
		}
	}
	yield(nil)
	for i, v := range windows {
		yield([]api.Window{v})
		for k, w := range windows {
			yield([]api.Window{v, w})
			yield([]api.Window{w, windows[(i+k)%len(windows)], v})
		}
	}
}

// hasOne says whether a moment is in one of some windows.
func hasOne(l []api.Window, at int) bool {
	return slices.ContainsFunc(l, func(w api.Window) bool { return Has(w, at) })
}

func TestHas(t *testing.T) {
	for at, want := range map[int]bool{4: false, 5: true, 7: true, 8: false, 9: false} {
		if got := Has(api.Window{From: 5, To: 8}, at); got != want {
			t.Errorf("%d: %v", at, got)
		}
	}
	if Has(api.Window{From: 5, To: 5}, 5) {
		t.Error("nothing is in an empty window")
	}
}

// P7.6, Z2: joined windows have the same moments, rise, and are apart.
func TestJoin(t *testing.T) {
	some(func(l []api.Window) {
		before := slices.Clone(l)
		got := Join(l)
		if !slices.Equal(l, before) {
			t.Errorf("%v became %v", before, l)
		}
		for at := range 8 {
			if hasOne(l, at) != hasOne(got, at) {
				t.Errorf("%v: %v", l, got)
			}
		}
		for i, w := range got {
			if w.From >= w.To || i > 0 && w.From <= got[i-1].To {
				t.Errorf("%v: %v", l, got)
			}
		}
	})
}

// P2.4, P7.4: Within counts moments.
func TestWithin(t *testing.T) {
	some(func(l []api.Window) {
		apart := Join(l)
		for from := range 8 {
			for to := from; to < 8; to++ {
				want := 0
				for at := from; at < to; at++ {
					if hasOne(l, at) {
						want++
					}
				}
				if got := Within(apart, api.Window{From: from, To: to}); got != want {
					t.Errorf("%v, %d, %d: %d", apart, from, to, got)
				}
			}
		}
	})
}

// P2.4, P7.5, P7.6
func TestNext(t *testing.T) {
	some(func(l []api.Window) {
		apart := Join(l)
		for at := range 8 {
			want := at + 1
			for want < 9 && hasOne(l, want) == hasOne(l, want-1) {
				want++
			}
			if want == 9 {
				want = api.End
			}
			if got := Next(apart, at); got != want {
				t.Errorf("%v, %d: %d", apart, at, got)
			}
		}
	})
	if got := Next([]api.Window{{From: 5, To: api.End}}, 5); got != api.End {
		t.Errorf("up to the end: %d", got)
	}
}

// P5.2, P5.4, P7.4
func TestMoments(t *testing.T) {
	for _, c := range []struct{ l, want []int }{
		{nil, nil}, {[]int{7}, []int{7, 1}}, {[]int{7, 7, 7}, []int{7, 3}}, {[]int{0, 0, 1, 3, 3}, []int{0, 2, 1, 1, 3, 2}},
	} {
		var got, seen []int
		for at, l := range Moments(c.l, func(x int) int { return x }) {
			got = append(got, at, len(l))
			seen = append(seen, l...)
		}
		if !slices.Equal(got, c.want) || !slices.Equal(seen, c.l) {
			t.Errorf("%v: %v", c.l, got)
		}
	}
	for at, l := range Moments([]int{1, 1, 2}, func(x int) int { return x }) {
		if at != 1 || len(l) != 2 {
			t.Error(at, l)
		}
		break
	}
}
