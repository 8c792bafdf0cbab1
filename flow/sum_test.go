package flow_test

import (
	"fmt"
	"math/big"
	"slices"
	"testing"

	"holloway/api"
	"holloway/flow"
)

// P9.2
func TestSums(t *testing.T) {
	const f = "6 10.0.0.1 10.0.0.2 9 80"
	for _, c := range []struct{ l, want string }{
		{"", ""},
		{"5 a out " + f + " 10 1000; 5 b in " + f + " 9 900", "5 a b 10 1000"},
		// Of bytes and packets the greater ones count, of whichever report.
		{"5 a out " + f + " 10 900; 5 b in " + f + " 9 1000", "5 a b 10 1000"},
		{"5 a out " + f + " 9 900; 5 b in " + f + " 10 1000", "5 a b 10 1000"},
		{"5 a out " + f + " 9 1000; 5 b in " + f + " 10 900", "5 a b 10 1000"},
		{"5 a out " + f + " 9 1000", "5 a b 9 1000"},
		{"5 b in " + f + " 9 1000", "5 a b 9 1000"},
		{"5 b in " + f + " 9 0", "5 a b 9 0"},
		// All flows of an hour are added.
		{"5 a out 1 10.0.0.1 10.0.0.2 0 0 1 10; 5 a out " + f + " 2 20; 5 a out 6 10.0.0.1 10.0.0.2 9 81 3 30; 5 b in " + f + " 1 50", "5 a b 6 90"},
		{"5 a out " + f + " 1 10; 6 a out " + f + " 2 20; 6 b in " + f + " 3 15", "5 a b 1 10; 6 a b 3 20"},
		// Both must be nodes.
		{"5 a out 6 10.0.0.1 10.9.9.9 9 80 1 10; 5 b in 6 10.9.9.9 10.0.0.2 9 80 1 10", ""},
		{"5 a in " + f + " 1 10; 5 b out " + f + " 1 10; 5 c in " + f + " 1 10", ""},
		// By Hour, From, To; there and back are two pairs, and one node can be both.
		{"5 a out 6 10.0.0.1 10.0.0.3 9 80 1 1; 5 a out 17 10.0.0.1 10.0.0.2 9 80 2 2; 5 b out 1 10.0.0.2 10.0.0.1 0 0 3 3; 5 c out 1 10.0.0.3 10.0.0.1 0 0 4 4; 6 a in 6 fd00::1 fd00::1 0 0 5 5", "5 a b 2 2; 5 a c 1 1; 5 b a 3 3; 5 c a 4 4; 6 a a 5 5"},
	} {
		is(t, c.l, all(flow.Sums(three(), reports(c.l))), all(sums(c.want), api.OK))
	}
}

// sumsOf are the sums of reports in someHours, told another way.
func sumsOf(nodes []api.Node, l []api.Report) []api.Sum {
	var out []api.Sum
	for _, hour := range someHours {
		found := wholes(nodes, slices.DeleteFunc(slices.Clone(l), func(r api.Report) bool { return r.Hour != hour }))
		for _, from := range nodes {
			for _, to := range nodes {
				s := api.Sum{Hour: hour, From: from.Key, To: to.Key}
				for _, w := range found {
					if w.From == s.From && w.To == s.To {
						s.Packets += max(w.sent.Packets, w.got.Packets)
						s.Bytes += max(w.Sent, w.Got)
					}
				}
				if s.Packets > 0 {
					out = append(out, s)
				}
			}
		}
	}
	return out
}

// hours is a random window.
func (r chance) hours() api.Window {
	if r.Intn(2) == 0 {
		return always
	}
	from := pick(r, append([]int{endHour}, someHours...))
	return hours(from, pick(r, []int{from, min(from+1, endHour), min(from+24, endHour), endHour}))
}

// topOf are the pairs of nodes with the most bytes, told another way.
func topOf(nodes []api.Node, all []api.Sum, w api.Window, many int) []api.Sum {
	var left []api.Sum
	for _, from := range nodes {
		for _, to := range nodes {
			s := api.Sum{From: from.Key, To: to.Key}
			for _, x := range all {
				if x.From == s.From && x.To == s.To && x.Hour >= w.From && x.Hour < w.To {
					s.Packets += x.Packets
					s.Bytes += x.Bytes
				}
			}
			if s.Packets > 0 {
				left = append(left, s)
			}
		}
	}
	var out []api.Sum
	for len(left) > 0 && len(out) < many {
		best := 0
		for i, s := range left {
			if s.Bytes > left[best].Bytes {
				best = i
			}
		}
		out = append(out, left[best])
		left = slices.Delete(left, best, best+1)
	}
	return out
}

// P9.2: random reports, and what follows
func TestSumsOfMany(t *testing.T) {
	r := newChance(4)
	lengths := map[int]int{}
	for range 300 {
		n := r.nodes()
		l := r.reports(n)
		want := sumsOf(n, l)
		name := fmt.Sprint(n, l)
		is(t, name, all(flow.Sums(n, l)), all(want, api.OK))
		w := r.hours()
		bytes := 0
		for _, s := range want {
			if s.Hour >= w.From && s.Hour < w.To {
				bytes += s.Bytes
			}
		}
		top, e := flow.Top(n, l, w, api.MaxTop)
		is(t, name, all(top, e), all(topOf(n, want, w, api.MaxTop), api.OK))
		lengths[min(len(top), 3)]++
		for _, s := range top {
			bytes -= s.Bytes
			is(t, name, all(flow.Between(n, l, s.From, s.To, w)), all(s.Bytes, api.OK))
		}
		is(t, name+": Top adds up to Sums", bytes, 0)
		many := r.Intn(4)
		is(t, name, all(flow.Top(n, l, w, many)), all(topOf(n, want, w, many), api.OK))
	}
	if min(lengths[0], lengths[1], lengths[2], lengths[3]) < 10 {
		t.Error(lengths)
	}
}

// inHours are reports of a to b in some hours, with as many bytes, and as many packets and 1.
func inHours(l ...int) []api.Report {
	return repeat(len(l), func(i int) api.Report {
		return reports(fmt.Sprintf("%d a out 6 10.0.0.1 10.0.0.2 9 80 %d %d", l[i], l[i]+1, l[i]))[0]
	})
}

// P9.2, P9.1: windows, and who is asked for
func TestBetween(t *testing.T) {
	l := inHours(0, 1, 2, 3, 96_023)
	for _, c := range []struct {
		from, to string
		w        api.Window
		want     int
	}{
		{"a", "b", always, 96_029},
		{"a", "b", hours(0, 96_023), 6},
		{"a", "b", hours(1, 3), 3},
		{"a", "b", hours(2, 3), 2},
		{"a", "b", hours(2, 2), 0},
		{"a", "b", hours(4, 96_024), 96_023},
		{"a", "b", hours(0, 0), 0},
		{"a", "b", hours(endHour, endHour), 0},
		{"b", "a", always, 0},
		{"a", "a", always, 0},
		{"a", "c", always, 0},
		{"a", "zed", always, 0},
		{"zed", "b", always, 0},
	} {
		is(t, fmt.Sprint(c), all(flow.Between(three(), l, c.from, c.to, c.w)), all(c.want, api.OK))
	}
	self := reports("5 a out 6 fd00::1 fd00::1 9 80 1 7")
	is(t, "to itself", all(flow.Between(three(), self, "a", "a", always)), all(7, api.OK))
	for _, s := range notKeys {
		is(t, "from", all(flow.Between(three(), l, s, "b", hours(1, 0))), all(0, api.ErrName))
		is(t, "to", all(flow.Between(three(), l, "a", s, hours(1, 0))), all(0, api.ErrName))
	}
}

// wrongHours are windows that are not right.
var wrongHours = []api.Window{hours(-1, 0), hours(-1<<63, 5), hours(1, 0), hours(0, -1), hours(0, endHour+1), hours(0, 1<<63-1), hours(1<<63-1, 1<<63-1), hours(endHour+1, endHour+1), hours(-5, -5)}

// P9.1: windows of hours
func TestHours(t *testing.T) {
	for _, w := range wrongHours {
		is(t, fmt.Sprint(w), all(flow.Between(three(), inHours(1), "a", "b", w)), all(0, api.ErrArg))
		is(t, fmt.Sprint(w), all(flow.Top(three(), inHours(1), w, 5)), all([]api.Sum{}, api.ErrArg))
		is(t, fmt.Sprint(w), all(flow.Loss(three(), inHours(1), w)), all(api.Fraction{}, api.ErrArg))
	}
	for _, w := range []api.Window{hours(0, 0), hours(0, endHour), hours(endHour, endHour), hours(5, 7)} {
		is(t, fmt.Sprint(w), all(flow.Between(three(), nil, "a", "b", w)), all(0, api.OK))
		is(t, fmt.Sprint(w), all(flow.Top(three(), nil, w, 5)), all([]api.Sum{}, api.OK))
		is(t, fmt.Sprint(w), all(flow.Loss(three(), nil, w)), all(api.Fraction{}, api.ErrNone))
	}
}

// P9.2
func TestTop(t *testing.T) {
	l := reports("1 a out 6 10.0.0.1 10.0.0.2 9 80 1 5; 1 a out 6 10.0.0.1 10.0.0.3 9 80 1 7; 1 b out 1 10.0.0.2 10.0.0.1 0 0 1 5; 1 b out 1 10.0.0.2 10.0.0.3 0 0 1 6; 2 a out 1 10.0.0.1 10.0.0.3 0 0 1 0; 2 b out 1 10.0.0.2 10.0.0.3 0 0 3 2")
	for many, want := range map[int]string{0: "", 1: "0 b c 4 8", 2: "0 b c 4 8; 0 a c 2 7", 3: "0 b c 4 8; 0 a c 2 7; 0 a b 1 5", 4: "0 b c 4 8; 0 a c 2 7; 0 a b 1 5; 0 b a 1 5", 100: "0 b c 4 8; 0 a c 2 7; 0 a b 1 5; 0 b a 1 5"} {
		is(t, fmt.Sprint(many), all(flow.Top(three(), l, always, many)), all(sums(want), api.OK))
	}
	is(t, "the first hour", all(flow.Top(three(), l, hours(0, 2), 2)), all(sums("0 a c 1 7; 0 b c 1 6"), api.OK))
	is(t, "the second hour", all(flow.Top(three(), l, hours(2, 3), 100)), all(sums("0 b c 3 2; 0 a c 1 0"), api.OK))
	for _, n := range wrongNumbers(0, api.MaxTop) {
		is(t, fmt.Sprint(n), all(flow.Top(three(), l, always, n)), all([]api.Sum{}, api.ErrArg))
	}
}

// P9.2
func TestLoss(t *testing.T) {
	const f, g = "6 10.0.0.1 10.0.0.2 9 80", "6 10.0.0.1 10.0.0.3 9 80"
	for _, c := range []struct {
		l    string
		want api.Fraction
		e    api.Errno
	}{
		{"", api.Fraction{}, api.ErrNone},
		{"5 a out " + f + " 10 1; 5 b in " + f + " 9 900", api.Fraction{Num: 1, Den: 10}, api.OK},
		{"5 a out " + f + " 10 1; 5 b in " + f + " 10 900", api.Fraction{Num: 0, Den: 1}, api.OK},
		{"5 a out " + f + " 10 1; 5 b in " + f + " 2 900", api.Fraction{Num: 4, Den: 5}, api.OK},
		// What is not known counts for nothing.
		{"5 a out " + f + " 10 1; 5 b in " + f + " 11 900", api.Fraction{}, api.ErrNone},
		{"5 a out " + f + " 10 1", api.Fraction{}, api.ErrNone},
		{"5 b in " + f + " 10 1", api.Fraction{}, api.ErrNone},
		{"5 a out " + f + " 10 1; 5 a out " + g + " 100 1; 5 b in " + f + " 8 900", api.Fraction{Num: 1, Den: 5}, api.OK},
		{"5 a out " + f + " 10 1; 5 a out " + g + " 1 1; 5 b in " + f + " 8 900; 5 c in " + g + " 2 2", api.Fraction{Num: 1, Den: 5}, api.OK},
		// All pairings of all hours are added.
		{"5 a out " + f + " 10 1; 5 a out " + g + " 6 1; 5 b in " + f + " 7 900; 5 c in " + g + " 5 2", api.Fraction{Num: 1, Den: 4}, api.OK},
		{"5 a out " + f + " 10 1; 5 b in " + f + " 7 900; 6 a out " + g + " 5 1; 6 c in " + g + " 5 2", api.Fraction{Num: 1, Den: 5}, api.OK},
		{"9 a out " + f + " 10 1; 9 b in " + f + " 7 900", api.Fraction{}, api.ErrNone},
		{"4 a out " + f + " 10 1; 4 b in " + f + " 7 900; 5 a out " + f + " 10 1; 5 b in " + f + " 9 900", api.Fraction{Num: 1, Den: 10}, api.OK},
		{"5 a out " + f + " 1000000000000 1; 5 b in " + f + " 1 900", api.Fraction{Num: 999_999_999_999, Den: 1_000_000_000_000}, api.OK},
	} {
		is(t, c.l, all(flow.Loss(three(), reports(c.l), hours(5, 9))), all(c.want, c.e))
	}
}

// fractionOf is a fraction of what is computed otherwise.
func fractionOf(x *big.Rat) api.Fraction {
	return api.Fraction{Num: int(x.Num().Int64()), Den: int(x.Denom().Int64())}
}

// P9.2: random reports
func TestLossOfMany(t *testing.T) {
	r := newChance(5)
	count := map[api.Errno]int{}
	for range 500 {
		n := r.nodes()
		l := r.reports(n)
		w := r.hours()
		lost, sent := int64(0), int64(0)
		for _, x := range wholes(n, l) {
			if x.Hour >= w.From && x.Hour < w.To && x.Lost >= 0 {
				lost += int64(x.Lost)
				sent += int64(x.sent.Packets)
			}
		}
		want, e := api.Fraction{}, api.ErrNone
		if sent > 0 {
			want, e = fractionOf(big.NewRat(lost, sent)), api.OK
		}
		is(t, fmt.Sprint(n, l, w), all(flow.Loss(n, l, w)), all(want, e))
		count[e]++
	}
	if count[api.OK] < 100 || count[api.ErrNone] < 100 {
		t.Error(count)
	}
}
