package flow

import (
	"cmp"
	"slices"
	"strings"

	"holloway/api"
	"holloway/checks"
	"holloway/lists"
	"holloway/times"
)

// A way leads from one node to another one.
type way struct{ from, to string }

func wayOf(s api.Sum) way { return way{from: s.From, to: s.To} }

func compareSums(x, y api.Sum) int {
	return cmp.Or(cmp.Compare(x.Hour, y.Hour), strings.Compare(x.From, y.From), strings.Compare(x.To, y.To))
}

// addUp adds up sums of the same hour, from one node to another one.
func addUp(l []api.Sum) []api.Sum {
	return lists.Gather(l, compareSums, func(x, y api.Sum) api.Sum {
		x.Packets += y.Packets
		x.Bytes += y.Bytes
		return x
	})
}

// sumsOf are the sums of reports, if nodes and reports are right.
func sumsOf(nodes []api.Node, l []api.Report) []api.Sum {
	var out []api.Sum
	for _, p := range pairsOf(nodes, l) {
		if p.from != "" && p.to != "" {
			most := greater(p.sent, p.got)
			out = append(out, api.Sum{Hour: p.hour, From: p.from, To: p.to, Packets: most.packets, Bytes: most.bytes})
		}
	}
	return addUp(out)
}

// sumsIn are the sums of reports in a window of hours.
func sumsIn(nodes []api.Node, l []api.Report, w api.Window) []api.Sum {
	return slices.DeleteFunc(sumsOf(nodes, l), func(s api.Sum) bool { return !times.Has(w, s.Hour) })
}

// Sums are what flowed from node to node.
func Sums(nodes []api.Node, l []api.Report) ([]api.Sum, api.Errno) {
	if e := checkAll(nodes, l); e != api.OK {
		return nil, e
	}
	return sumsOf(nodes, l), api.OK
}

// Between is what flowed from one node to another one.
func Between(nodes []api.Node, l []api.Report, from, to string, hours api.Window) (int, api.Errno) {
	if e := cmp.Or(checkAll(nodes, l), checks.Key(from), checks.Key(to), checkHours(hours)); e != api.OK {
		return 0, e
	}
	bytes := 0
	for _, s := range sumsIn(nodes, l, hours) {
		if wayOf(s) == (way{from: from, to: to}) {
			bytes += s.Bytes
		}
	}
	return bytes, api.OK
}

// Top are the pairs of nodes between which most flowed.
func Top(nodes []api.Node, l []api.Report, hours api.Window, many int) ([]api.Sum, api.Errno) {
	if e := cmp.Or(checkAll(nodes, l), checkHours(hours), checks.Number(many, 0, api.MaxTop)); e != api.OK {
		return nil, e
	}
	out := addUp(lists.Map(sumsIn(nodes, l, hours), func(s api.Sum) api.Sum {
		s.Hour = 0
		return s
	}))
	slices.SortStableFunc(out, func(x, y api.Sum) int { return cmp.Compare(y.Bytes, x.Bytes) })
	return out[:min(many, len(out))], api.OK
}

// Loss is which part of all packets was lost.
func Loss(nodes []api.Node, l []api.Report, hours api.Window) (api.Fraction, api.Errno) {
	if e := cmp.Or(checkAll(nodes, l), checkHours(hours)); e != api.OK {
		return api.Fraction{}, e
	}
	lost, sent := 0, 0
	for _, p := range pairsOf(nodes, l) {
		if times.Has(hours, p.hour) && p.lost() >= 0 {
			lost += p.lost()
			sent += p.sent.packets
		}
	}
	if sent == 0 {
		return api.Fraction{}, api.ErrNone
	}
	return fraction(lost, sent), api.OK
}
