package flow_test

import (
	"fmt"
	"math/big"
	"slices"
	"testing"

	"holloway/api"
	"holloway/flow"
)

// P9.3
func TestMedianAndSpread(t *testing.T) {
	const most = 2 * api.MaxBytes
	for _, c := range []struct {
		l              []int
		median, spread api.Fraction
	}{
		{[]int{0}, api.Fraction{Num: 0, Den: 1}, api.Fraction{Num: 0, Den: 1}},
		{[]int{7}, api.Fraction{Num: 7, Den: 1}, api.Fraction{Num: 0, Den: 1}},
		{[]int{1, 2, 9}, api.Fraction{Num: 2, Den: 1}, api.Fraction{Num: 1, Den: 1}},
		{[]int{9, 1, 2}, api.Fraction{Num: 2, Den: 1}, api.Fraction{Num: 1, Den: 1}},
		{[]int{9, 1, 2, 4}, api.Fraction{Num: 3, Den: 1}, api.Fraction{Num: 3, Den: 2}},
		{[]int{2, 1}, api.Fraction{Num: 3, Den: 2}, api.Fraction{Num: 1, Den: 2}},
		{[]int{5, 5}, api.Fraction{Num: 5, Den: 1}, api.Fraction{Num: 0, Den: 1}},
		{[]int{0, 1}, api.Fraction{Num: 1, Den: 2}, api.Fraction{Num: 1, Den: 2}},
		{[]int{0, 0, 1, 1, 2, 9}, api.Fraction{Num: 1, Den: 1}, api.Fraction{Num: 1, Den: 1}},
		{[]int{0, 1, 4, 6}, api.Fraction{Num: 5, Den: 2}, api.Fraction{Num: 2, Den: 1}},
		{[]int{0, 3, 4, 6}, api.Fraction{Num: 7, Den: 2}, api.Fraction{Num: 3, Den: 2}},
		{[]int{0, 10, 11, 12}, api.Fraction{Num: 21, Den: 2}, api.Fraction{Num: 1, Den: 1}},
		{[]int{0, 0, 0, 7, 7}, api.Fraction{Num: 0, Den: 1}, api.Fraction{Num: 0, Den: 1}},
		{[]int{most}, api.Fraction{Num: most, Den: 1}, api.Fraction{Num: 0, Den: 1}},
		{[]int{most, 0}, api.Fraction{Num: api.MaxBytes, Den: 1}, api.Fraction{Num: api.MaxBytes, Den: 1}},
		{[]int{most, most - 1}, api.Fraction{Num: 2*most - 1, Den: 2}, api.Fraction{Num: 1, Den: 2}},
	} {
		is(t, fmt.Sprint("median of ", c.l), all(flow.Median(c.l)), all(c.median, api.OK))
		is(t, fmt.Sprint("spread of ", c.l), all(flow.Spread(c.l)), all(c.spread, api.OK))
	}
	full := repeat(api.MaxReports, func(i int) int { return most - i })
	is(t, "full", all(flow.Median(full)), all(api.Fraction{Num: 2*most - 2_999, Den: 2}, api.OK))
	is(t, "full", all(flow.Spread(full)), all(api.Fraction{Num: 750, Den: 1}, api.OK))
}

// P9.3, Z4
func TestMedianErrors(t *testing.T) {
	type errors struct {
		l []int
		e api.Errno
	}
	list := []errors{
		{nil, api.ErrNone},
		{[]int{}, api.ErrNone},
		{make([]int, api.MaxReports+1), api.ErrLarge},
		{slices.Repeat([]int{-1}, api.MaxReports+1), api.ErrLarge},
	}
	for _, n := range wrongNumbers(0, 2*api.MaxBytes) {
		list = append(list, errors{[]int{n}, api.ErrArg}, errors{[]int{0, 1, n}, api.ErrArg})
	}
	for _, c := range list {
		is(t, "Median", all(flow.Median(c.l)), all(api.Fraction{}, c.e))
		is(t, "Spread", all(flow.Spread(c.l)), all(api.Fraction{}, c.e))
	}
}

// ratOf is a number that is computed otherwise.
func ratOf(n int) *big.Rat { return new(big.Rat).SetInt64(int64(n)) }

// medianOf is the median of numbers, told another way.
func medianOf(l []*big.Rat) *big.Rat {
	sorted := slices.SortedFunc(slices.Values(l), (*big.Rat).Cmp)
	for len(sorted) > 2 {
		sorted = sorted[1 : len(sorted)-1]
	}
	sum := new(big.Rat)
	for _, x := range sorted {
		sum.Add(sum, x)
	}
	return sum.Quo(sum, ratOf(len(sorted)))
}

// spreadOf is the spread of numbers, told another way.
func spreadOf(l []*big.Rat) *big.Rat {
	middle := medianOf(l)
	return medianOf(repeat(len(l), func(i int) *big.Rat {
		x := new(big.Rat).Sub(l[i], middle)
		return x.Abs(x)
	}))
}

// P9.3: random numbers
func TestMedianOfMany(t *testing.T) {
	r := newChance(6)
	for range 3_000 {
		most := pick(r, []int{3, 10, 1_000, 2 * api.MaxBytes})
		l := repeat(1+r.Intn(12), func(int) int { return r.Intn(most + 1) })
		rats := repeat(len(l), func(i int) *big.Rat { return ratOf(l[i]) })
		is(t, fmt.Sprint(l), all(flow.Median(l)), all(fractionOf(medianOf(rats)), api.OK))
		is(t, fmt.Sprint(l), all(flow.Spread(l)), all(fractionOf(spreadOf(rats)), api.OK))
	}
}

// hourly are reports of a to b in the hours from 0 on, with so many bytes.
func hourly(bytes ...int) []api.Report {
	return repeat(len(bytes), func(i int) api.Report {
		return reports(fmt.Sprintf("%d a out 6 10.0.0.1 10.0.0.2 9 80 1 %d", i, bytes[i]))[0]
	})
}

// P9.3
func TestUnusual(t *testing.T) {
	for _, c := range []struct {
		bytes    []int
		num, den int
		least    int
		want     string
	}{
		// The median is 105, the spread 5.
		{[]int{100, 110, 90, 105, 500}, 5, 1, 3, "4 a b 1 500"},
		{[]int{100, 110, 90, 105, 500}, 100, 1, 5, ""},
		{[]int{100, 110, 90, 105, 500}, 79, 1, 5, ""},
		{[]int{100, 110, 90, 105, 500}, 78, 1, 5, "4 a b 1 500"},
		{[]int{100, 110, 90, 105, 500}, 5, 1, 6, ""},
		{[]int{100, 110, 90, 105, 500}, 1, 1, 5, "4 a b 1 500"},
		{[]int{100, 110, 90, 105, 500}, 2, 2, 5, "4 a b 1 500"},
		{[]int{100, 110, 90, 105, 500}, 99, 100, 5, "1 a b 1 110; 4 a b 1 500"},
		{[]int{100, 110, 90, 105, 500}, 0, 1, 5, "1 a b 1 110; 4 a b 1 500"},
		{[]int{100, 110, 90, 105, 500}, 0, 100, 1, "1 a b 1 110; 4 a b 1 500"},
		{[]int{7}, 0, 1, 1, ""},
		{[]int{5, 5, 5}, 0, 1, 1, ""},
		{[]int{5, 5, 6}, 100, 1, 3, "2 a b 1 6"},
		// The median is 3/2, the spread 1/2.
		{[]int{1, 2}, 1, 1, 2, ""},
		{[]int{1, 2}, 99, 100, 2, "1 a b 1 2"},
		// The median is 5/2, the spread 1/2.
		{[]int{0, 2, 3, 3}, 99, 100, 4, "2 a b 1 3; 3 a b 1 3"},
		{[]int{0, 2, 3, 3}, 1, 1, 4, ""},
		// The median is 3, the spread 3/2.
		{[]int{9, 1, 2, 4}, 4, 1, 4, ""},
		{[]int{9, 1, 2, 4}, 99, 25, 4, "0 a b 1 9"},
		{[]int{9, 1, 2, 4}, 2, 3, 4, "0 a b 1 9"},
		{[]int{9, 1, 2, 4}, 65, 98, 4, "0 a b 1 9; 3 a b 1 4"},
	} {
		times := api.Fraction{Num: c.num, Den: c.den}
		is(t, fmt.Sprint(c), all(flow.Unusual(three(), hourly(c.bytes...), times, c.least)), all(sums(c.want), api.OK))
	}
	// Each pair of nodes has a median of its own; each hour is one sum.
	l := "0 a out 6 10.0.0.1 10.0.0.2 9 80 1 10; 0 a out 6 10.0.0.1 10.0.0.2 9 81 1 10; 0 a out 6 10.0.0.1 10.0.0.3 9 80 1 90; 1 a out 6 10.0.0.1 10.0.0.2 9 80 1 20; 1 a out 6 10.0.0.1 10.0.0.3 9 80 1 90; 2 a out 6 10.0.0.1 10.0.0.2 9 80 1 30; 2 a out 6 10.0.0.1 10.0.0.3 9 80 1 91; 2 b out 6 10.0.0.2 10.0.0.1 9 80 1 99"
	is(t, l, all(flow.Unusual(three(), reports(l), api.Fraction{Num: 1, Den: 1}, 1)), all(sums("2 a b 1 30; 2 a c 1 91"), api.OK))
}

// P9.3, Z6: sums of more bytes than one report has
func TestUnusualAndGreat(t *testing.T) {
	var l []api.Report
	for hour, n := range []int{1, 1_000, 1_998} {
		for port := range n {
			l = append(l, reports(fmt.Sprintf("%d a out 6 10.0.0.1 10.0.0.2 9 %d 1 %d", hour, port, api.MaxBytes))...)
		}
	}
	l[0].Bytes = 0
	// The median is 10^15, the spread 998 * 10^12.
	last := api.Sum{Hour: 2, From: "a", To: "b", Packets: 1_998, Bytes: 1_998 * api.MaxBytes}
	for _, c := range []struct {
		num, den int
		want     []api.Sum
	}{{99, 100, []api.Sum{last}}, {1, 100, []api.Sum{last}}, {0, 100, []api.Sum{last}}, {100, 100, nil}, {100, 1, nil}} {
		is(t, fmt.Sprint(c), all(flow.Unusual(three(), l, api.Fraction{Num: c.num, Den: c.den}, 3)), all(c.want, api.OK))
	}
}

// P9.3
func TestUnusualErrors(t *testing.T) {
	for _, n := range wrongNumbers(1, 100) {
		is(t, "Den", all(flow.Unusual(three(), hourly(1, 2), api.Fraction{Num: 1, Den: n}, 1)), all([]api.Sum{}, api.ErrArg))
	}
	for _, n := range wrongNumbers(0, 100) {
		is(t, "Num", all(flow.Unusual(three(), hourly(1, 2), api.Fraction{Num: n, Den: 1}, 1)), all([]api.Sum{}, api.ErrArg))
	}
	for _, n := range wrongNumbers(1, api.MaxReports) {
		is(t, "least", all(flow.Unusual(three(), hourly(1, 2), api.Fraction{Num: 0, Den: 1}, n)), all([]api.Sum{}, api.ErrArg))
	}
	is(t, "most", all(flow.Unusual(three(), hourly(1, 2), api.Fraction{Num: 100, Den: 100}, api.MaxReports)), all([]api.Sum{}, api.OK))
}

// unusualOf are the sums that are much more than others, told another way.
func unusualOf(l []api.Sum, times *big.Rat, least int) []api.Sum {
	var out []api.Sum
	for _, s := range l {
		var bytes []*big.Rat
		for _, x := range l {
			if x.From == s.From && x.To == s.To {
				bytes = append(bytes, ratOf(x.Bytes))
			}
		}
		above := new(big.Rat).Sub(ratOf(s.Bytes), medianOf(bytes))
		limit := new(big.Rat).Mul(times, spreadOf(bytes))
		if len(bytes) >= least && above.Sign() > 0 && above.Cmp(limit) > 0 {
			out = append(out, s)
		}
	}
	return out
}

// P9.3: random reports
func TestUnusualOfMany(t *testing.T) {
	r := newChance(7)
	found := 0
	for range 1_000 {
		n := r.nodes()
		l := r.reports(n)
		times := api.Fraction{Num: r.Intn(4), Den: 1 + r.Intn(3)}
		least := 1 + r.Intn(4)
		want := unusualOf(sumsOf(n, l), big.NewRat(int64(times.Num), int64(times.Den)), least)
		is(t, fmt.Sprint(n, l, times, least), all(flow.Unusual(n, l, times, least)), all(want, api.OK))
		found += len(want)
	}
	if found < 300 {
		t.Error(found)
	}
}

// scans makes scans of an hour, a node, and how many ports and addresses.
func scans(s string) []api.Scan {
	return parts(s, func(w []string) api.Scan {
		return api.Scan{Hour: number(w[0]), From: w[1], Ports: number(w[2]), Addrs: number(w[3])}
	})
}

// P9.3
func TestScans(t *testing.T) {
	for _, c := range []struct {
		l            string
		ports, addrs int
		want         string
	}{
		{"", 1, 1, ""},
		{"1 a out 6 10.0.0.1 10.0.0.2 9 80 1 1", 1, 1, "1 a 1 1"},
		{"1 a out 6 10.0.0.1 10.0.0.2 9 80 1 1", 1, 2, "1 a 1 1"},
		{"1 a out 6 10.0.0.1 10.0.0.2 9 80 1 1", 2, 1, "1 a 1 1"},
		{"1 a out 6 10.0.0.1 10.0.0.2 9 80 1 1", 2, 2, ""},
		// A port counts once, of whichever address and protocol; FromPort counts for nothing.
		{"1 a out 6 10.0.0.1 10.0.0.2 9 80 1 1; 1 a out 6 10.0.0.1 10.0.0.2 10 80 1 1; 1 a out 6 10.0.0.1 10.0.0.3 9 80 1 1; 1 a out 17 10.0.0.1 10.0.0.3 9 80 1 1", 1, 9, "1 a 1 2"},
		{"1 a out 6 10.0.0.1 10.0.0.2 9 80 1 1; 1 a out 6 10.0.0.1 10.0.0.2 9 81 1 1; 1 a out 17 10.0.0.1 10.0.0.2 9 82 1 1", 3, 9, "1 a 3 1"},
		// Addresses of nobody count, those of all lengths together.
		{"1 a out 6 10.0.0.1 10.0.0.2 9 80 1 1; 1 a out 6 10.0.0.1 10.9.9.9 9 80 1 1; 1 a out 6 10.0.0.1 10.9.9.10 9 80 1 1; 1 a out 6 fd00::1 fd00::2 9 80 1 1", 9, 4, "1 a 1 4"},
		// Other protocols do not count.
		{"1 a out 1 10.0.0.1 10.0.0.2 0 0 1 1; 1 a out 6 10.0.0.1 10.0.0.3 9 80 1 1; 1 a out 255 10.0.0.1 10.9.9.10 0 0 1 1", 1, 1, "1 a 1 1"},
		{"1 a out 1 10.0.0.1 10.0.0.2 0 0 1 1", 1, 1, ""},
		// What the other end alone tells counts; what does not fit does not.
		{"1 b in 6 10.0.0.1 10.0.0.2 9 80 1 1", 1, 1, "1 a 1 1"},
		{"1 a out 6 10.0.0.1 10.0.0.2 9 80 1 1; 1 b in 6 10.0.0.1 10.0.0.2 9 80 1 1; 1 c in 6 10.0.0.1 10.0.0.2 9 81 1 1", 1, 1, "1 a 1 1"},
		// There must be an owner of From.
		{"1 b in 6 10.9.9.9 10.0.0.2 9 80 1 1", 1, 1, ""},
		// Hours are apart; by Hour, then From.
		{"1 b out 6 10.0.0.2 10.0.0.1 9 80 1 1; 1 c out 6 10.0.0.3 10.0.0.1 9 0 1 1; 2 a out 6 10.0.0.1 10.0.0.2 9 80 1 1; 3 a out 17 10.0.0.1 10.0.0.2 9 81 1 1; 3 b out 6 10.0.0.2 10.0.0.3 9 80 1 1", 1, 9, "1 b 1 1; 1 c 1 1; 2 a 1 1; 3 a 1 1; 3 b 1 1"},
		{"1 a out 6 10.0.0.1 10.0.0.2 9 80 1 1; 2 a out 6 10.0.0.1 10.0.0.2 9 81 1 1; 2 a out 6 10.0.0.1 10.0.0.2 9 82 1 1", 2, 9, "2 a 2 1"},
	} {
		is(t, fmt.Sprint(c.l, c.ports, c.addrs), all(flow.Scans(three(), reports(c.l), c.ports, c.addrs)), all(scans(c.want), api.OK))
	}
	for _, n := range wrongNumbers(1, api.MaxReports) {
		is(t, "ports", all(flow.Scans(three(), nil, n, 1)), all([]api.Scan{}, api.ErrArg))
		is(t, "addrs", all(flow.Scans(three(), nil, 1, n)), all([]api.Scan{}, api.ErrArg))
	}
	full := repeat(api.MaxReports, func(i int) api.Report {
		return api.Report{Node: "a", Out: true, Flow: api.Flow{Proto: 17, From: ip("10.0.0.1"), To: ip("10.0.0.2"), ToPort: i}, Packets: 1}
	})
	is(t, "full", all(flow.Scans(three(), full, api.MaxReports, api.MaxReports)), all([]api.Scan{{From: "a", Ports: api.MaxReports, Addrs: 1}}, api.OK))
}

// P9.3: random reports
func TestScansOfMany(t *testing.T) {
	r := newChance(8)
	count := 0
	for range 500 {
		n := r.nodes()
		l := r.reports(n)
		leastPorts, leastAddrs := 1+r.Intn(4), 1+r.Intn(4)
		found := wholes(n, l)
		var want []api.Scan
		for _, hour := range someHours {
			for _, from := range n {
				ports, addrs := map[string]bool{}, map[string]bool{}
				for _, w := range found {
					if w.Hour == hour && w.From == from.Key && (w.Flow.Proto == 6 || w.Flow.Proto == 17) {
						ports[fmt.Sprint(w.Flow.ToPort)], addrs[placeOf(w.Flow.To)] = true, true
					}
				}
				if len(ports) >= leastPorts || len(addrs) >= leastAddrs {
					want = append(want, api.Scan{Hour: hour, From: from.Key, Ports: len(ports), Addrs: len(addrs)})
				}
			}
		}
		is(t, fmt.Sprint(n, l, leastPorts, leastAddrs), all(flow.Scans(n, l, leastPorts, leastAddrs)), all(want, api.OK))
		count += len(want)
	}
	if count < 500 {
		t.Error(count)
	}
}
