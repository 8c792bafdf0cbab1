package posture

import (
	"cmp"

	"holloway/api"
	"holloway/checks"
	"holloway/lists"
	"holloway/orders"
)

// checkFacts is what is wrong with facts.
func checkFacts(l []api.Fact) api.Errno {
	return checks.Rising(l, api.MaxFacts, func(f api.Fact) api.Errno {
		return cmp.Or(checks.Key(f.Node), checks.Key(f.Posture))
	}, orders.Facts)
}

// Both are the facts of two lists.
func Both(a, b []api.Fact) ([]api.Fact, api.Errno) {
	if e := cmp.Or(checkFacts(a), checkFacts(b)); e != api.OK {
		return nil, e
	}
	return lists.Merge(a, b, api.MaxFacts, orders.Facts)
}
