package flow_test

import (
	"fmt"
	"slices"
	"testing"

	"holloway/api"
	"holloway/flow"
)

// many are so many reports, rising.
func many(n int) []api.Report {
	return repeat(n, func(i int) api.Report {
		return api.Report{Hour: i / 2, Node: key(i), Flow: api.Flow{Proto: 1}, Packets: 1}
	})
}

// rightReports are reports of which each one comes behind the one before by another part.
func rightReports() []api.Report {
	return reports("0 n in 6 10.0.0.1 10.0.0.2 9 80 1 0; 0 n in 6 10.0.0.1 10.0.0.2 9 81 1 0; 0 n in 6 10.0.0.1 10.0.0.2 10 0 1 0; 0 n in 6 10.0.0.1 10.0.0.3 0 0 1 0; 0 n in 6 10.0.0.2 10.0.0.1 0 0 1 0; " +
		"0 n in 6 fd00::1 fd00::2 0 0 1 0; 0 n in 6 fd00::1 fd01::1 0 0 1 0; 0 n in 6 fd01:: fd00::1 0 0 1 0; 0 n in 17 10.0.0.1 10.0.0.2 65535 65535 1000000000000 1000000000000; 0 n in 255 10.0.0.1 10.0.0.2 0 0 1 0; " +
		"0 n out 1 10.0.0.1 10.0.0.1 0 0 7 7; 0 n- in 1 10.0.0.1 10.0.0.1 0 0 7 7; 0 na in 1 10.0.0.1 10.0.0.1 0 0 7 7; 1 a in 1 10.0.0.1 10.0.0.1 0 0 7 7; 96023 a in 1 10.0.0.1 10.0.0.1 0 0 7 7")
}

// spoilers are what can be wrong with a report, in the order of the errors.
func spoilers() []spoiler[api.Report] {
	var out []spoiler[api.Report]
	add := func(name string, e api.Errno, do func(x *api.Report)) {
		out = append(out, spoiler[api.Report]{name, do, e})
	}
	for _, s := range notKeys {
		add("a node", api.ErrName, func(x *api.Report) { x.Node = s })
	}
	for _, n := range wrongNumbers(0, 24*api.MaxDay+23) {
		add("an hour", api.ErrArg, func(x *api.Report) { x.Hour = n })
	}
	for _, n := range wrongNumbers(1, api.MaxProto) {
		add("a protocol", api.ErrArg, func(x *api.Report) { x.Flow.Proto = n })
	}
	add("From", api.ErrForm, func(x *api.Report) { x.Flow.From = api.Addr{Hi: 1} })
	add("To", api.ErrForm, func(x *api.Report) { x.Flow.To = api.Addr{Lo: 1 << 32} })
	add("two lengths", api.ErrType, func(x *api.Report) { x.Flow.To = api.Addr{Six: !x.Flow.From.Six} })
	for _, n := range wrongNumbers(0, api.MaxPort) {
		add("FromPort", api.ErrArg, func(x *api.Report) { x.Flow.FromPort = n })
		add("ToPort", api.ErrArg, func(x *api.Report) { x.Flow.ToPort = n })
	}
	for _, n := range wrongNumbers(1, api.MaxBytes) {
		add("packets", api.ErrArg, func(x *api.Report) { x.Packets = n })
	}
	for _, n := range wrongNumbers(0, api.MaxBytes) {
		add("bytes", api.ErrArg, func(x *api.Report) { x.Bytes = n })
	}
	return out
}

// P9.1, Z4, Z6
func TestCheck(t *testing.T) {
	checked(t, rightReports(), flow.Check, spoilers())
	for _, s := range []string{"0 n in 1 10.0.0.1 10.0.0.2 1 0 1 0", "0 n in 1 10.0.0.1 10.0.0.2 0 1 1 0", "0 n in 255 fd00::1 fd00::2 0 80 1 0"} {
		is(t, s, flow.Check(reports(s)), api.ErrArg)
	}
	is(t, "full", flow.Check(many(api.MaxReports)), api.OK)
	is(t, "too many", flow.Check(many(api.MaxReports+1)), api.ErrLarge)
	is(t, "too many wrong ones", flow.Check(make([]api.Report, api.MaxReports+1)), api.ErrLarge)
	// Packets and bytes count for nothing in the order.
	is(t, "more packets", flow.Check(reports("0 n in 1 10.0.0.1 10.0.0.1 0 0 1 0; 0 n in 1 10.0.0.1 10.0.0.1 0 0 2 0")), api.ErrOrder)
	is(t, "more bytes", flow.Check(reports("0 n in 1 10.0.0.1 10.0.0.1 0 0 1 0; 0 n in 1 10.0.0.1 10.0.0.1 0 0 1 1")), api.ErrOrder)
}

// P9.1: the order of random reports
func TestOrder(t *testing.T) {
	r := newChance(1)
	for range 300 {
		l := r.reports(r.nodes())
		is(t, "in order", flow.Check(l), api.OK)
		for range 20 {
			if len(l) == 0 {
				break
			}
			x, y := pick(r, l), pick(r, l)
			want := api.OK
			if placeOfReport(x) >= placeOfReport(y) {
				want = api.ErrOrder
			}
			is(t, fmt.Sprint(x, y), flow.Check([]api.Report{x, y}), want)
		}
	}
}

// P9.1
func TestMerge(t *testing.T) {
	one, two := "0 n in 6 10.0.0.1 10.0.0.2 9 80 1 5", "0 n out 6 10.0.0.1 10.0.0.2 9 80 1 5"
	for _, c := range []struct {
		a, b, want string
		e          api.Errno
	}{
		{"", "", "", api.OK},
		{one, "", one, api.OK},
		{one, one, one, api.OK},
		{one, two, one + "; " + two, api.OK},
		{one + "; " + two, one, one + "; " + two, api.OK},
		{one + "; 5 n in 1 :: :: 0 0 1 0", two + "; 4 z in 1 :: :: 0 0 1 0; 5 n in 1 :: :: 0 0 1 0; 5 n in 1 :: ::1 0 0 1 0", one + "; " + two + "; 4 z in 1 :: :: 0 0 1 0; 5 n in 1 :: :: 0 0 1 0; 5 n in 1 :: ::1 0 0 1 0", api.OK},
		{one, "0 n in 6 10.0.0.1 10.0.0.2 9 80 2 5", "", api.ErrConflict},
		{one, "0 n in 6 10.0.0.1 10.0.0.2 9 80 1 6", "", api.ErrConflict},
		{one + "; " + two, "0 n out 6 10.0.0.1 10.0.0.2 9 80 9 9; 1 n out 6 10.0.0.1 10.0.0.2 9 80 1 5", "", api.ErrConflict},
		{one, "1 n in 6 10.0.0.1 10.0.0.2 9 80 2 6", one + "; 1 n in 6 10.0.0.1 10.0.0.2 9 80 2 6", api.OK},
		{two + "; " + one, "0 N in 6 10.0.0.1 10.0.0.2 9 80 1 5", "", api.ErrOrder},
		{one, "0 N in 6 10.0.0.1 10.0.0.2 9 80 1 5", "", api.ErrName},
	} {
		is(t, c.a+" with "+c.b, all(flow.Merge(reports(c.a), reports(c.b))), all(reports(c.want), c.e))
		if c.e == api.OK || c.e == api.ErrConflict {
			is(t, c.b+" with "+c.a, all(flow.Merge(reports(c.b), reports(c.a))), all(reports(c.want), c.e))
		}
	}
	full := many(api.MaxReports)
	more := many(api.MaxReports + 1)[1:]
	is(t, "full", all(flow.Merge(full[:1_000], full[900:])), all(full, api.OK))
	is(t, "the same ones", all(flow.Merge(full, full)), all(full, api.OK))
	is(t, "too many", all(flow.Merge(full, more)), all([]api.Report{}, api.ErrLarge))
	more[5].Bytes++
	is(t, "too many, and a conflict", all(flow.Merge(full, more)), all([]api.Report{}, api.ErrConflict))
	is(t, "too many in the first one", all(flow.Merge(many(api.MaxReports+1), many(api.MaxReports+1))), all([]api.Report{}, api.ErrLarge))
}

// P9.1: random reports; in whatever order they are merged.
func TestMergeOfMany(t *testing.T) {
	r := newChance(2)
	merge := func(a, b []api.Report) []api.Report {
		l, e := flow.Merge(a, b)
		is(t, "Merge", e, api.OK)
		return l
	}
	for range 300 {
		l := r.reports(r.nodes())
		lists := repeat(3, func(int) []api.Report { return some(r, l) })
		var want []api.Report
		for _, x := range l {
			if slices.ContainsFunc(lists, func(m []api.Report) bool { return slices.Contains(m, x) }) {
				want = append(want, x)
			}
		}
		is(t, "Merge", merge(merge(lists[0], lists[1]), lists[2]), want)
		is(t, "Merge", merge(lists[2], merge(lists[1], lists[0])), want)
	}
}
