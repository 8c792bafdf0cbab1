package flow

import (
	"cmp"
	"maps"
	"slices"

	"holloway/api"
	"holloway/checks"
)

const (
	gigabyte   = 1_000_000_000
	maxPrice   = 1_000_000 // of each of its numbers
	monthHours = 30 * dayHours
	maxMonth   = 133
)

// CheckPrice validates a price.
func CheckPrice(p api.Price) api.Errno {
	return cmp.Or(checks.Number(p.Free, 0, maxPrice), checks.Number(p.Cents, 0, maxPrice))
}

// cents is what bytes of a month cost.
func cents(p api.Price, bytes int) int {
	begun := (bytes + gigabyte - 1) / gigabyte
	return p.Cents * max(0, begun-p.Free)
}

// Bills are what users pay for a month.
func Bills(nodes []api.Node, l []api.Report, p api.Price, month int) ([]api.Bill, api.Errno) {
	if e := cmp.Or(checkAll(nodes, l), CheckPrice(p), checks.Number(month, 0, maxMonth)); e != api.OK {
		return nil, e
	}
	users := map[string]string{}
	for _, n := range nodes {
		users[n.Key] = n.User
	}
	bytes := map[string]int{}
	for _, s := range sumsIn(nodes, l, api.Window{From: month * monthHours, To: (month + 1) * monthHours}) {
		if user := users[s.From]; user != "" {
			bytes[user] += s.Bytes
		}
	}
	var out []api.Bill
	for _, user := range slices.Sorted(maps.Keys(bytes)) {
		out = append(out, api.Bill{User: user, Month: month, Bytes: bytes[user], Cents: cents(p, bytes[user])})
	}
	return out, api.OK
}
