package route_test

import (
	"fmt"
	"math"
	"testing"

	"holloway/api"
	"holloway/route"
)

// P5.6, Z4, Z6
func TestCheckSamples(t *testing.T) {
	right := samples("0 p 10; 0 q -1; 1 p 0; 1 p0 1000000; 1 q 5; 7 a 5; " + fmt.Sprint(api.End-1) + " a 5")
	checked(t, right, route.CheckSamples, []spoiler[api.Sample]{
		{"below 0", func(x *api.Sample) { x.At = -1 }, api.ErrArg},
		{"the end", func(x *api.Sample) { x.At = api.End }, api.ErrArg},
		{"the greatest int", func(x *api.Sample) { x.At = math.MaxInt }, api.ErrArg},
		{"no path", func(x *api.Sample) { x.Path = "" }, api.ErrName},
		{"no key", func(x *api.Sample) { x.Path = "-" }, api.ErrName},
		{"below -1", func(x *api.Sample) { x.Millis = -2 }, api.ErrArg},
		{"the least int", func(x *api.Sample) { x.Millis = math.MinInt }, api.ErrArg},
		{"too long", func(x *api.Sample) { x.Millis = api.MaxMillis + 1 }, api.ErrArg},
	})
	many := func(n int) []api.Sample {
		return repeat(n, func(i int) api.Sample { return api.Sample{At: i / 2, Path: key(i)} })
	}
	is(t, "full", route.CheckSamples(many(api.MaxSamples)), api.OK)
	is(t, "too many", route.CheckSamples(many(api.MaxSamples+1)), api.ErrLarge)
}

// P5.6
func TestUsed(t *testing.T) {
	last := fmt.Sprint(api.End - 1)
	for _, c := range []struct {
		l           string
		gain, fresh int
		want        string
	}{
		{"", 5, 20, ""},
		{"5 p -1", 5, 20, ""},
		{"5 p 10", 5, 20, "p 5 25"},
		{"5 p 10; 5 q 9; 5 r 9", 5, 20, "q 5 25"},
		// By less than gain, and by gain.
		{"5 p 10; 6 q 6; 7 q 5", 5, 20, "p 5 7; q 7 27"},
		{"5 p 10; 6 p 99; 6 q 95", 5, 20, "p 5 26"},
		// With gain 0 for one that is as fast, if its name is less.
		{"5 p 10; 6 o 10; 7 q 10", 0, 20, "p 5 6; o 6 26; q 26 27"},
		{"5 p 10; 6 o 10; 7 q 9", 1, 20, "p 5 7; q 7 27"},
		// One that has no answer is given up at once, for any.
		{"5 p 10; 6 q 900; 7 p -1", 500, 20, "p 5 7; q 7 26"},
		{"5 p 10; 7 p -1; 9 p 10", 500, 20, "p 5 7; p 9 29"},
		// One whose sample gets too old likewise, and none takes its place if all are.
		{"5 p 10; 6 q 900", 500, 20, "p 5 25; q 25 26"},
		{"5 p 10; 25 p 10", 5, 20, "p 5 45"},
		{"5 p 10; 26 p 10", 5, 20, "p 5 25; p 26 46"},
		{"5 p 10; 15 p 10; 20 q 900", 5, 20, "p 5 35; q 35 40"},
		{"5 p 10; 5 q 12; 15 q 12", 5, 20, "p 5 25; q 25 35"},
		// At the moment at which one gets too old, new samples are known.
		{"5 p 10; 25 q 900", 5, 20, "p 5 25; q 25 45"},
		{"5 p 10; 5 r 1; 25 p 30; 25 q 29", 500, 20, "r 5 25; q 25 45"},
		{"5 p 10; 6 q 1; 6 r 2; 7 q 3", 0, 20, "p 5 6; q 6 7; r 7 26; q 26 27"},
		// Where one that is not used gets too old, nothing changes.
		{"5 p 10; 6 q 12; 7 p 10; 8 p 10", 0, 5, "p 5 13"},
		{"1 q 8; 5 p 10; 9 p 12", 3, 6, "q 1 7; p 7 15"},
		// Samples are good up to the end at the most.
		{last + " p 10", 5, 1, "p " + last},
		{last + " p 10", 5, api.End, "p " + last},
		{"0 p 10", 5, api.End, "p 0"},
		{"0 p 10", 5, api.End - 1, "p 0 " + last},
		{"0 p 10; 1 q 20", 5, api.End - 1, "p 0 " + last + "; q " + last},
		{"0 p 10; 1 q 20", 5, api.End, "p 0"},
		{"7 p 10", 5, 1, "p 7 8"},
		{"7 p 10; 8 p 10; 10 p 10", 5, 1, "p 7 9; p 10 11"},
		{"1 p 1000000; 2 q 0", api.MaxMillis, 20, "p 1 2; q 2 22"},
		{"1 p 1000000; 2 q 1", api.MaxMillis, 20, "p 1 21; q 21 22"},
	} {
		is(t, fmt.Sprint(c.l, " with ", c.gain, " and ", c.fresh), all(route.Used(samples(c.l), c.gain, c.fresh)), all(turns(c.want), api.OK))
	}
}

// P5.6: as many samples as there can be.
func TestUsedLong(t *testing.T) {
	falling := repeat(api.MaxSamples, func(i int) api.Sample { return api.Sample{At: i, Path: key(i), Millis: api.MaxSamples - i} })
	want := repeat(api.MaxSamples, func(i int) api.Turn { return api.Turn{Who: key(i), From: i, To: i + 1} })
	want[api.MaxSamples-1].To += 2_999
	is(t, "falling", all(route.Used(falling, 1, 3_000)), all(want, api.OK))
}

// P5.6, Z4
func TestErrorsOfPaths(t *testing.T) {
	few := step{api.ErrLarge, func(in *input) { in.samples = samples("1 p 1") }}
	ladder(t, "CheckSamples", callOf("CheckSamples"), few)
	ladder(t, "Used", callOf("Used"), few, step{api.ErrArg, func(in *input) { in.gain = 0 }}, step{api.ErrArg, func(in *input) { in.fresh = 1 }})
	for _, n := range []int{math.MinInt, -1, api.MaxMillis + 1, math.MaxInt} {
		is(t, "gain", all(route.Used(nil, n, 1)), all([]api.Turn{}, api.ErrArg))
	}
	for _, n := range []int{math.MinInt, -1, 0, api.End + 1, math.MaxInt} {
		is(t, "fresh", all(route.Used(nil, 0, n)), all([]api.Turn{}, api.ErrArg))
	}
}

// isGood says whether a path is good at a moment, by its samples of at most another moment, and how long it takes.
func isGood(l []api.Sample, path string, fresh, at, told int) (int, bool) {
	known := api.Sample{Millis: -1}
	for _, s := range l {
		if s.Path == path && s.At <= told {
			known = s
		}
	}
	return known.Millis, known.Millis != -1 && known.At+fresh > at
}

// usedOf tells second by second which path is used.
func usedOf(l []api.Sample, gain, fresh int) []string {
	var out []string
	used := ""
	for at := range until + fresh + 1 {
		look := false
		for _, s := range l {
			look = look || s.At == at
		}
		for _, path := range somePaths {
			_, was := isGood(l, path, fresh, at-1, at-1)
			_, stays := isGood(l, path, fresh, at, at-1)
			look = look || was && !stays
		}
		if look {
			used = usedNext(l, gain, fresh, at, used)
		}
		out = append(out, used)
	}
	return out
}

// usedNext is which path is used behind a look.
func usedNext(l []api.Sample, gain, fresh, at int, used string) string {
	best, least := "", 0
	for _, path := range somePaths {
		if n, good := isGood(l, path, fresh, at, at); good && (best == "" || n < least) {
			best, least = path, n
		}
	}
	if n, good := isGood(l, used, fresh, at, at); good && n-least < gain {
		return used
	}
	return best
}

// P5.6: random samples are held against a second telling.
func TestUsedOfMany(t *testing.T) {
	r := newChance(3)
	count := map[int]int{}
	for range 2_000 {
		l, gain, fresh := r.samples(), r.Intn(5), 1+r.Intn(12)
		want := turnsOf(usedOf(l, gain, fresh))
		got, e := route.Used(l, gain, fresh)
		is(t, fmt.Sprint(l, gain, fresh), all(got, e), all(want, api.OK))
		count[min(len(got), 9)]++
		sameReasons(t, l, gain, fresh, got)
	}
	if count[0] == 0 || count[1] < 10 || count[3] < 100 || count[9] < 100 {
		t.Error(count)
	}
}

// sameReasons: what follows: a path is given up only when it stops being good, or for one that is faster by at least gain (or, with gain 0, as fast).
func sameReasons(t *testing.T, l []api.Sample, gain, fresh int, got []api.Turn) {
	for i, turn := range got {
		n, good := isGood(l, turn.Who, fresh, turn.To, turn.To)
		if turn.To == api.End || !good {
			continue
		}
		if i+1 == len(got) || got[i+1].From != turn.To {
			t.Fatal(l, gain, fresh, got)
		}
		if m, _ := isGood(l, got[i+1].Who, fresh, turn.To, turn.To); n-m < gain {
			t.Fatal(l, gain, fresh, got)
		}
	}
}
