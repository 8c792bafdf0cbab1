package flow_test

import (
	"fmt"
	"testing"

	"holloway/api"
	"holloway/flow"
)

// P9.4
func TestThin(t *testing.T) {
	const f = "6 10.0.0.1 10.0.0.2"
	for _, c := range []struct {
		l      string
		before int
		want   string
	}{
		{"", 0, ""},
		{"1 a out " + f + " 9 80 1 5", 0, "1 a out " + f + " 9 80 1 5"},
		{"1 a out " + f + " 9 80 1 5", 1, "0 a out " + f + " 0 0 1 5"},
		{"1 a out " + f + " 9 80 1 5; 2 a out " + f + " 9 81 2 6; 30 a out " + f + " 9 81 2 6", 1, "0 a out " + f + " 0 0 3 11; 30 a out " + f + " 9 81 2 6"},
		// Hours from 24 * before on stay.
		{"23 a out " + f + " 9 80 1 5; 24 a out " + f + " 9 80 2 6; 47 a out " + f + " 9 80 3 7; 48 a out " + f + " 9 80 4 8", 0, "23 a out " + f + " 9 80 1 5; 24 a out " + f + " 9 80 2 6; 47 a out " + f + " 9 80 3 7; 48 a out " + f + " 9 80 4 8"},
		{"23 a out " + f + " 9 80 1 5; 24 a out " + f + " 9 80 2 6; 47 a out " + f + " 9 80 3 7; 48 a out " + f + " 9 80 4 8", 1, "0 a out " + f + " 0 0 1 5; 24 a out " + f + " 9 80 2 6; 47 a out " + f + " 9 80 3 7; 48 a out " + f + " 9 80 4 8"},
		{"23 a out " + f + " 9 80 1 5; 24 a out " + f + " 9 80 2 6; 47 a out " + f + " 9 80 3 7; 48 a out " + f + " 9 80 4 8", 2, "0 a out " + f + " 0 0 1 5; 24 a out " + f + " 0 0 5 13; 48 a out " + f + " 9 80 4 8"},
		// Node, Out, Proto, From and To keep reports apart.
		{"1 a in " + f + " 9 80 1 1; 1 a in 6 10.0.0.1 10.0.0.3 9 80 2 2; 1 a in 6 10.0.0.2 10.0.0.2 9 80 3 3; 1 a in 17 10.0.0.1 10.0.0.2 9 80 4 4; 1 a out " + f + " 9 80 5 5; 1 b in " + f + " 9 80 6 6; 2 a in " + f + " 7 7 7 7", 1,
			"0 a in " + f + " 0 0 8 8; 0 a in 6 10.0.0.1 10.0.0.3 0 0 2 2; 0 a in 6 10.0.0.2 10.0.0.2 0 0 3 3; 0 a in 17 10.0.0.1 10.0.0.2 0 0 4 4; 0 a out " + f + " 0 0 5 5; 0 b in " + f + " 0 0 6 6"},
		// The nodes of a day come in order.
		{"1 b in " + f + " 9 80 1 1; 2 a in " + f + " 9 80 1 1; 25 b in " + f + " 9 80 1 1; 26 a in " + f + " 9 80 1 1", 1, "0 a in " + f + " 0 0 1 1; 0 b in " + f + " 0 0 1 1; 25 b in " + f + " 9 80 1 1; 26 a in " + f + " 9 80 1 1"},
		// Sums are at most MaxBytes.
		{"1 a out " + f + " 9 80 1000000000000 5; 2 a out " + f + " 9 80 1 999999999995", 1, "0 a out " + f + " 0 0 1000000000000 1000000000000"},
		{"1 a out " + f + " 9 80 999999999998 1000000000000; 2 a out " + f + " 9 80 1 1; 3 a out " + f + " 9 80 1 1000000000000", 1, "0 a out " + f + " 0 0 1000000000000 1000000000000"},
		{"96023 a out " + f + " 9 80 1 1", 4_000, "96023 a out " + f + " 9 80 1 1"},
		{"96023 a out " + f + " 9 80 1 1", 4_001, "96000 a out " + f + " 0 0 1 1"},
	} {
		is(t, fmt.Sprint(c.l, " before ", c.before), all(flow.Thin(reports(c.l), c.before)), all(reports(c.want), api.OK))
	}
	for _, n := range wrongNumbers(0, api.MaxDay+1) {
		is(t, fmt.Sprint(n), all(flow.Thin(nil, n)), all([]api.Report{}, api.ErrArg))
	}
}

// putTogether are reports of which those with one place are put together, told another way.
func putTogether(l []api.Report) []api.Report {
	found := map[string]api.Report{}
	for _, x := range l {
		old := found[placeOfReport(x)]
		x.Packets = min(api.MaxBytes, x.Packets+old.Packets)
		x.Bytes = min(api.MaxBytes, x.Bytes+old.Bytes)
		found[placeOfReport(x)] = x
	}
	return inOrder(found)
}

// P9.4: random reports
func TestThinOfMany(t *testing.T) {
	r := newChance(10)
	less := 0
	for range 1_000 {
		l := r.reports(r.nodes())
		before := pick(r, []int{0, 1, 2, 30, 60, api.MaxDay, api.MaxDay + 1})
		want := putTogether(repeat(len(l), func(i int) api.Report {
			x := l[i]
			if day := x.Hour / 24; day < before {
				x.Hour, x.Flow.FromPort, x.Flow.ToPort = 24*day, 0, 0
			}
			return x
		}))
		is(t, fmt.Sprint(l, " before ", before), all(flow.Thin(l, before)), all(want, api.OK))
		is(t, "twice", all(flow.Thin(want, before)), all(want, api.OK))
		less += len(l) - len(want)
	}
	if less < 500 {
		t.Error(less)
	}
}

// P9.4
func TestHide(t *testing.T) {
	for _, c := range []struct {
		l            string
		bits4, bits6 int
		want         string
	}{
		{"", 0, 0, ""},
		{"1 a out 6 10.0.0.1 10.0.0.2 9 80 1 5", 24, 64, "1 a out 6 10.0.0.0 10.0.0.0 9 80 1 5"},
		{"1 a out 6 10.0.0.1 10.0.0.2 9 80 1 5", 32, 0, "1 a out 6 10.0.0.1 10.0.0.2 9 80 1 5"},
		{"1 a out 6 10.0.0.1 10.0.0.3 9 80 1 5", 31, 0, "1 a out 6 10.0.0.0 10.0.0.2 9 80 1 5"},
		{"1 a out 6 10.0.0.1 10.0.0.2 9 80 1 5", 0, 128, "1 a out 6 0.0.0.0 0.0.0.0 9 80 1 5"},
		{"1 a out 6 fd00::1 fd00:0:0:1::3 9 80 1 5", 0, 128, "1 a out 6 fd00::1 fd00:0:0:1::3 9 80 1 5"},
		{"1 a out 6 fd00::1 fd00:0:0:1::3 9 80 1 5", 0, 127, "1 a out 6 fd00:: fd00:0:0:1::2 9 80 1 5"},
		{"1 a out 6 fd00::1 fd00:0:0:1::3 9 80 1 5", 32, 64, "1 a out 6 fd00:: fd00:0:0:1:: 9 80 1 5"},
		{"1 a out 6 fd00::1 fd00:0:0:1::3 9 80 1 5", 32, 63, "1 a out 6 fd00:: fd00:: 9 80 1 5"},
		{"1 a out 6 fd00::1 fd00:0:0:1::3 9 80 1 5", 32, 0, "1 a out 6 :: :: 9 80 1 5"},
		// What is told twice then is put together; Hour, Node, Out, Proto and ports keep reports apart.
		{"1 a in 6 10.0.0.1 10.0.0.2 9 80 1 1; 1 a in 6 10.0.0.1 10.0.0.3 9 80 2 2; 1 a in 6 10.0.0.1 10.0.0.3 9 81 3 3; 1 a in 6 10.0.0.1 10.0.0.3 10 80 4 4; 1 a in 17 10.0.0.1 10.0.0.3 9 80 5 5; 1 a out 6 10.0.0.1 10.0.0.3 9 80 6 6; 1 b in 6 10.0.0.1 10.0.0.3 9 80 7 7; 2 a in 6 10.0.0.1 10.0.0.3 9 80 8 8", 30, 0,
			"1 a in 6 10.0.0.0 10.0.0.0 9 80 3 3; 1 a in 6 10.0.0.0 10.0.0.0 9 81 3 3; 1 a in 6 10.0.0.0 10.0.0.0 10 80 4 4; 1 a in 17 10.0.0.0 10.0.0.0 9 80 5 5; 1 a out 6 10.0.0.0 10.0.0.0 9 80 6 6; 1 b in 6 10.0.0.0 10.0.0.0 9 80 7 7; 2 a in 6 10.0.0.0 10.0.0.0 9 80 8 8"},
		// The order can become another one.
		{"1 a in 6 10.0.0.1 10.0.0.3 9 80 1 1; 1 a in 6 10.0.0.2 10.0.0.1 9 80 2 2; 1 a in 6 10.0.0.3 10.0.0.3 9 80 3 3", 31, 0, "1 a in 6 10.0.0.0 10.0.0.2 9 80 1 1; 1 a in 6 10.0.0.2 10.0.0.0 9 80 2 2; 1 a in 6 10.0.0.2 10.0.0.2 9 80 3 3"},
		{"1 a in 6 10.0.0.0 10.0.0.3 9 80 1 1; 1 a in 6 10.0.0.1 10.0.0.1 9 80 2 2", 31, 0, "1 a in 6 10.0.0.0 10.0.0.0 9 80 2 2; 1 a in 6 10.0.0.0 10.0.0.2 9 80 1 1"},
		{"1 a in 6 10.0.0.1 10.0.0.1 9 80 1000000000000 999999999999; 1 a in 6 10.0.0.1 10.0.0.2 9 80 1 1; 1 a in 6 10.0.0.1 10.0.0.3 9 80 1 1", 0, 0, "1 a in 6 0.0.0.0 0.0.0.0 9 80 1000000000000 1000000000000"},
	} {
		is(t, fmt.Sprint(c), all(flow.Hide(reports(c.l), c.bits4, c.bits6)), all(reports(c.want), api.OK))
	}
	for _, n := range wrongNumbers(0, 32) {
		is(t, fmt.Sprint(n), all(flow.Hide(nil, n, 0)), all([]api.Report{}, api.ErrArg))
	}
	for _, n := range wrongNumbers(0, 128) {
		is(t, fmt.Sprint(n), all(flow.Hide(nil, 0, n)), all([]api.Report{}, api.ErrArg))
	}
}

// P9.4: random reports
func TestHideOfMany(t *testing.T) {
	r := newChance(11)
	less := 0
	for range 3_000 {
		l := r.reports(r.nodes())
		bits4, bits6 := pick(r, []int{0, 23, 24, 30, 31, 32}), pick(r, []int{0, 63, 64, 126, 127, 128})
		hide := func(a api.Addr) api.Addr {
			hidden := 32 - bits4
			if a.Six {
				hidden = 128 - bits6
			}
			for i := range hidden {
				if i < 64 {
					a.Lo &^= 1 << i
				} else {
					a.Hi &^= 1 << (i - 64)
				}
			}
			return a
		}
		want := putTogether(repeat(len(l), func(i int) api.Report {
			x := l[i]
			x.Flow.From, x.Flow.To = hide(x.Flow.From), hide(x.Flow.To)
			return x
		}))
		is(t, fmt.Sprint(l, bits4, bits6), all(flow.Hide(l, bits4, bits6)), all(want, api.OK))
		is(t, "twice", all(flow.Hide(want, bits4, bits6)), all(want, api.OK))
		less += len(l) - len(want)
	}
	if less < 150 {
		t.Error(less)
	}
}
