package flow

import (
	"cmp"
	"maps"
	"slices"
	"strings"

	"holloway/api"
	"holloway/checks"
	"holloway/ports"
)

const maxTerm = 100 // of a fraction by which a spread is multiplied

// A usual is what is usual for some numbers: twice their median, and four times their spread.
type usual struct{ middle, spread int }

func usualOf(l []int) usual { return usual{middle: twiceMedian(l), spread: fourSpreads(l)} }

// exceeds says whether a number is more than so many spreads above the median.
func (u usual) exceeds(n int, times api.Fraction) bool {
	// Both sides are times 4 * Den: a sum has at most MaxReports * MaxBytes, so that they are below 2^63.
	return 2*times.Den*(2*n-u.middle) > times.Num*u.spread
}

// Unusual are the sums that are much more than others.
func Unusual(nodes []api.Node, l []api.Report, times api.Fraction, least int) ([]api.Sum, api.Errno) {
	terms := cmp.Or(checks.Number(times.Den, 1, maxTerm), checks.Number(times.Num, 0, maxTerm))
	if e := cmp.Or(checkAll(nodes, l), terms, checks.Number(least, 1, api.MaxReports)); e != api.OK {
		return nil, e
	}
	sums := sumsOf(nodes, l)
	bytes := map[way][]int{}
	for _, s := range sums {
		bytes[wayOf(s)] = append(bytes[wayOf(s)], s.Bytes)
	}
	known := map[way]usual{}
	for w, n := range bytes {
		known[w] = usualOf(n)
	}
	return slices.DeleteFunc(sums, func(s api.Sum) bool {
		w := wayOf(s)
		return len(bytes[w]) < least || !known[w].exceeds(s.Bytes, times)
	}), api.OK
}

// tries are the ports and the addresses that a node tried in an hour.
type tries struct {
	ports map[int]bool
	addrs map[api.Addr]bool
}

func (t tries) add(f api.Flow) {
	t.ports[f.ToPort] = true
	t.addrs[f.To] = true
}

// A start is a node in an hour.
type start struct {
	hour int
	node string
}

func compareStarts(x, y start) int {
	return cmp.Or(cmp.Compare(x.hour, y.hour), strings.Compare(x.node, y.node))
}

// Scans are the nodes that tried much.
func Scans(nodes []api.Node, l []api.Report, leastPorts, leastAddrs int) ([]api.Scan, api.Errno) {
	right := cmp.Or(checks.Number(leastPorts, 1, api.MaxReports), checks.Number(leastAddrs, 1, api.MaxReports))
	if e := cmp.Or(checkAll(nodes, l), right); e != api.OK {
		return nil, e
	}
	tried := map[start]tries{}
	for _, p := range pairsOf(nodes, l) {
		if p.from == "" || !ports.UsedBy(p.flow.Proto) {
			continue
		}
		at := start{hour: p.hour, node: p.from}
		if _, is := tried[at]; !is {
			tried[at] = tries{ports: map[int]bool{}, addrs: map[api.Addr]bool{}}
		}
		tried[at].add(p.flow)
	}
	var out []api.Scan
	for _, at := range slices.SortedFunc(maps.Keys(tried), compareStarts) {
		if t := tried[at]; len(t.ports) >= leastPorts || len(t.addrs) >= leastAddrs {
			out = append(out, api.Scan{Hour: at.hour, From: at.node, Ports: len(t.ports), Addrs: len(t.addrs)})
		}
	}
	return out, api.OK
}
