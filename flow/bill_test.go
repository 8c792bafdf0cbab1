package flow_test

import (
	"fmt"
	"math/big"
	"testing"

	"holloway/api"
	"holloway/flow"
)

const gigabyte = 1_000_000_000

// P9.5, Z4, Z6
func TestCheckPrice(t *testing.T) {
	for _, n := range []int{0, 1, 1_000_000} {
		is(t, "right", flow.CheckPrice(api.Price{Free: n}), api.OK)
		is(t, "right", flow.CheckPrice(api.Price{Cents: n}), api.OK)
	}
	for _, n := range wrongNumbers(0, 1_000_000) {
		for _, p := range []api.Price{{Free: n}, {Cents: n}} {
			is(t, fmt.Sprint(p), flow.CheckPrice(p), api.ErrArg)
			is(t, fmt.Sprint(p), all(flow.Bills(three(), hourly(5), p, 0)), all([]api.Bill{}, api.ErrArg))
		}
	}
}

// bills makes bills of a user, a month, bytes, and cents.
func bills(s string) []api.Bill {
	return parts(s, func(w []string) api.Bill {
		return api.Bill{User: w[0], Month: number(w[1]), Bytes: number(w[2]), Cents: number(w[3])}
	})
}

// P9.5: months, and whose bytes count
func TestBills(t *testing.T) {
	n := nodes("a bob 10.0.0.1; b ann 10.0.0.2; c #web 10.0.0.3; d ann 10.0.0.4; e zoe 10.0.0.5")
	const f = " 9 80 1 "
	for _, c := range []struct {
		l     string
		month int
		want  string
	}{
		{"", 0, ""},
		{"0 a out 6 10.0.0.1 10.0.0.2" + f + "5", 0, "bob 0 5 7"},
		{"0 a out 6 10.0.0.1 10.0.0.2" + f + "5", 1, ""},
		// What is in a month.
		{"719 a out 6 10.0.0.1 10.0.0.2" + f + "1; 720 a out 6 10.0.0.1 10.0.0.2" + f + "2; 1439 a out 6 10.0.0.1 10.0.0.2" + f + "4; 1440 a out 6 10.0.0.1 10.0.0.2" + f + "8", 0, "bob 0 1 7"},
		{"719 a out 6 10.0.0.1 10.0.0.2" + f + "1; 720 a out 6 10.0.0.1 10.0.0.2" + f + "2; 1439 a out 6 10.0.0.1 10.0.0.2" + f + "4; 1440 a out 6 10.0.0.1 10.0.0.2" + f + "8", 1, "bob 1 6 7"},
		{"719 a out 6 10.0.0.1 10.0.0.2" + f + "1; 720 a out 6 10.0.0.1 10.0.0.2" + f + "2; 1439 a out 6 10.0.0.1 10.0.0.2" + f + "4; 1440 a out 6 10.0.0.1 10.0.0.2" + f + "8", 2, "bob 2 8 7"},
		{"95759 a out 6 10.0.0.1 10.0.0.2" + f + "1; 95760 a out 6 10.0.0.1 10.0.0.2" + f + "2; 96023 a out 6 10.0.0.1 10.0.0.2" + f + "4", 133, "bob 133 6 7"},
		// Who sends pays, by users; nodes with tags pay nothing, and to nobody is no sum.
		{"0 a out 6 10.0.0.1 10.0.0.2" + f + "1; 0 b out 6 10.0.0.2 10.0.0.1" + f + "2; 0 c out 6 10.0.0.3 10.0.0.2" + f + "4; 0 d out 6 10.0.0.4 10.0.0.1" + f + "8; 0 e out 6 10.0.0.5 10.9.9.9" + f + "16", 0, "ann 0 10 7; bob 0 1 7"},
		{"0 a in 6 10.0.0.5 10.0.0.1" + f + "6; 0 e out 6 10.0.0.5 10.0.0.1" + f + "5", 0, "zoe 0 6 7"},
		{"0 c out 6 10.0.0.3 10.0.0.2" + f + "4", 0, ""},
		{"0 c in 6 10.0.0.5 10.0.0.3" + f + "4", 0, "zoe 0 4 7"},
		// A user with a sum has a bill, whatever it costs.
		{"0 a out 6 10.0.0.1 10.0.0.2" + f + "0", 0, "bob 0 0 0"},
	} {
		is(t, fmt.Sprint(c), all(flow.Bills(n, reports(c.l), api.Price{Cents: 7}, c.month)), all(bills(c.want), api.OK))
	}
	for _, m := range wrongNumbers(0, 133) {
		is(t, fmt.Sprint(m), all(flow.Bills(n, nil, api.Price{}, m)), all([]api.Bill{}, api.ErrArg))
	}
}

// P9.5, Z6: begun gigabytes
func TestCents(t *testing.T) {
	for _, c := range []struct{ bytes, free, cents, want int }{
		{0, 0, 7, 0}, {1, 0, 7, 7}, {gigabyte - 1, 0, 7, 7}, {gigabyte, 0, 7, 7}, {gigabyte + 1, 0, 7, 14},
		{1, 1, 7, 0}, {gigabyte, 1, 7, 0}, {gigabyte + 1, 1, 7, 7}, {2 * gigabyte, 1, 7, 7}, {2*gigabyte + 1, 1, 7, 14}, {2*gigabyte + 1, 3, 7, 0}, {2*gigabyte + 1, 1_000_000, 7, 0},
		{api.MaxBytes, 0, 1_000_000, 1_000_000_000}, {api.MaxBytes, 999, 1_000_000, 1_000_000}, {api.MaxBytes, 1_000, 1_000_000, 0}, {api.MaxBytes, 5, 0, 0},
	} {
		l := hourly(c.bytes)
		is(t, fmt.Sprint(c), all(flow.Bills(three(), l, api.Price{Free: c.free, Cents: c.cents}, 0)), all([]api.Bill{{User: "ann", Bytes: c.bytes, Cents: c.want}}, api.OK))
	}
	full := repeat(api.MaxReports, func(i int) api.Report {
		return api.Report{Node: "a", Out: true, Flow: api.Flow{Proto: 6, From: ip("10.0.0.1"), To: ip("10.0.0.2"), ToPort: i}, Packets: 1, Bytes: api.MaxBytes}
	})
	is(t, "full", all(flow.Bills(three(), full, api.Price{Free: 1_000_000, Cents: 1_000_000}, 0)), all(bills("ann 0 3000000000000000 2000000000000"), api.OK))
}

// P9.5: random reports
func TestBillsOfMany(t *testing.T) {
	r := newChance(12)
	count := 0
	for range 1_000 {
		n := r.nodes()
		l := r.reports(n)
		p, month := api.Price{Free: r.Intn(3), Cents: r.Intn(100)}, pick(r, []int{0, 0, 1, 1, 2, 133})
		var want []api.Bill
		for _, user := range words("ann bob") {
			b := api.Bill{User: user, Month: month}
			is := false
			for _, s := range sumsOf(n, l) {
				for _, x := range n {
					if x.Key == s.From && x.User == user && s.Hour/720 == month {
						b.Bytes += s.Bytes
						is = true
					}
				}
			}
			begun := new(big.Int).Div(big.NewInt(int64(b.Bytes)+gigabyte-1), big.NewInt(gigabyte))
			if above := int(begun.Int64()) - p.Free; above > 0 {
				b.Cents = above * p.Cents
			}
			if is {
				want = append(want, b)
			}
		}
		is(t, fmt.Sprint(n, l, p, month), all(flow.Bills(n, l, p, month)), all(want, api.OK))
		count += len(want)
	}
	if count < 300 {
		t.Error(count)
	}
}
