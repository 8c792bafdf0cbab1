// Package ports computes with ranges of ports, and writes and reads them. Its lists are in any order, where nothing else is said, and their ranges are right.
package ports

import (
	"cmp"
	"slices"
	"strconv"
	"strings"

	"holloway/api"
	"holloway/notation"
)

const maxDigits = 9

// UsedBy says whether flows of a protocol have ports.
func UsedBy(proto int) bool { return proto == api.ProtoTcp || proto == api.ProtoUdp }

// All are all ports.
func All() api.Ports { return api.Ports{To: api.MaxPort} }

// IsRight says whether a range is one of ports, and not empty.
func IsRight(p api.Ports) bool { return 0 <= p.From && p.From <= p.To && p.To <= api.MaxPort }

// Has says whether a port is in one of some ranges.
func Has(l []api.Ports, port int) bool {
	return slices.ContainsFunc(l, func(p api.Ports) bool { return p.From <= port && port <= p.To })
}

// Join is the least list of the ports of some ranges: they rise, and there is a port between each two that is in none.
func Join(l []api.Ports) []api.Ports {
	sorted := slices.Clone(l)
	slices.SortFunc(sorted, func(x, y api.Ports) int { return cmp.Compare(x.From, y.From) })
	var out []api.Ports
	for _, p := range sorted {
		if n := len(out); n == 0 || p.From > out[n-1].To+1 {
			out = append(out, p)
		} else {
			out[n-1].To = max(out[n-1].To, p.To)
		}
	}
	return out
}

// Covers says whether a least list has all ports of another one.
func Covers(a, b []api.Ports) bool {
	i := 0
	for _, p := range b {
		for i < len(a) && a[i].To < p.To {
			i++
		}
		if i == len(a) || p.From < a[i].From {
			return false
		}
	}
	return true
}

// Differ is the least port that is in a range of just one of two lists, and whether there is one.
func Differ(a, b []api.Ports) (int, bool) {
	a, b = Join(a), Join(b)
	n := 0
	for n < len(a) && n < len(b) && a[n] == b[n] {
		n++
	}
	switch {
	case n == len(a) && n == len(b):
		return 0, false
	case n == len(a):
		return b[n].From, true
	case n == len(b):
		return a[n].From, true
	case a[n].From != b[n].From:
		return min(a[n].From, b[n].From), true
	}
	// The list of the shorter one has nothing just behind its end.
	return min(a[n].To, b[n].To) + 1, true
}

// Text writes a range, right or not.
func Text(p api.Ports) string {
	if p.From == p.To {
		return strconv.Itoa(p.From)
	}
	return strconv.Itoa(p.From) + "-" + strconv.Itoa(p.To)
}

// Read reads the range with a text; it need not be right.
func Read(s string) (api.Ports, bool) {
	first, last, two := strings.Cut(s, "-")
	from, ok := notation.Number(first, maxDigits)
	if !ok || !two {
		return api.Ports{From: from, To: from}, ok
	}
	to, ok := notation.Number(last, maxDigits)
	return api.Ports{From: from, To: to}, ok && from != to
}
