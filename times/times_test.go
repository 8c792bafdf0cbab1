package times

import (
	"math"
	"testing"

	"holloway/api"
)

// Z11
func TestIsMoment(t *testing.T) {
	for _, c := range []struct {
		at   int
		want bool
	}{
		{0, true}, {1, true}, {api.DayLong, true}, {api.End - 1, true}, {api.End, false}, {-1, false}, {math.MinInt, false}, {math.MaxInt, false},
	} {
		if got := IsMoment(c.at); got != c.want {
			t.Errorf("%d: %v", c.at, got)
		}
	}
}

// Z6, Z11
func TestIsWindow(t *testing.T) {
	for _, w := range []api.Window{{}, {From: 0, To: 1}, {From: 5, To: 5}, {From: 0, To: api.End}, {From: api.End, To: api.End}, {From: api.End - 1, To: api.End}} {
		if !IsWindow(w) {
			t.Errorf("%v is a window", w)
		}
	}
	for _, w := range []api.Window{{From: -1, To: 0}, {From: -1, To: -1}, {From: 1, To: 0}, {From: 0, To: -1}, {From: 0, To: api.End + 1}, {From: api.End + 1, To: api.End + 1}, {From: math.MinInt, To: math.MaxInt}, {From: math.MaxInt, To: math.MinInt}, {From: 0, To: math.MaxInt}} {
		if IsWindow(w) {
			t.Errorf("%v is no window", w)
		}
	}
}

// Windows are from From on, and before To: Shared counts moments.
func TestShared(t *testing.T) {
	in := func(w api.Window, at int) bool { return w.From <= at && at < w.To }
	for a := range 6 {
		for b := a; b < 6; b++ {
			for c := range 6 {
				for d := c; d < 6; d++ {
					v, w, want := api.Window{From: a, To: b}, api.Window{From: c, To: d}, 0
					for at := range 6 {
						if in(v, at) && in(w, at) {
							want++
						}
					}
					if got := Shared(v, w); got != want {
						t.Errorf("%v, %v: %d", v, w, got)
					}
				}
			}
		}
	}
}
