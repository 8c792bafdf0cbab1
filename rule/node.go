package rule

import (
	"cmp"
	"strings"

	"holloway/api"
	"holloway/checks"
	"holloway/notation"
	"holloway/orders"
)

// CheckNodes validates nodes.
func CheckNodes(l []api.Node) api.Errno {
	keys := func(n api.Node) api.Errno { return cmp.Or(checks.Key(n.Key), checks.Key(n.Name)) }
	byKey := func(x, y api.Node) int { return strings.Compare(x.Key, y.Key) }
	taken := map[api.Addr]bool{}
	return checks.Rising(l, api.MaxNodes, keys, byKey, func(n api.Node) api.Errno {
		return cmp.Or(checkHolder(n), checks.Addrs(n.Addrs, taken, api.ErrTwice), checks.Routes(n.Routes))
	})
}

// checkHolder is what is wrong with the user of a node, or with its tags.
func checkHolder(n api.Node) api.Errno {
	if n.User != "" && !notation.IsKey(n.User) {
		return api.ErrName
	}
	if len(n.Tags) > api.MaxTags {
		return api.ErrLarge
	}
	if e := checks.Keys(n.Tags); e != api.OK {
		return e
	}
	if (n.User == "") == (len(n.Tags) == 0) {
		return api.ErrForm
	}
	return api.OK
}

// CheckFacts validates facts about nodes.
func CheckFacts(nodes []api.Node, l []api.Fact) api.Errno {
	if e := CheckNodes(nodes); e != api.OK {
		return e
	}
	if len(l) > api.MaxFacts {
		return api.ErrLarge
	}
	known := make(map[string]bool, len(nodes))
	for _, n := range nodes {
		known[n.Key] = true
	}
	for i, f := range l {
		if !known[f.Node] {
			return api.ErrNone
		}
		if !notation.IsKey(f.Posture) {
			return api.ErrName
		}
		if i > 0 && orders.Facts(f, l[i-1]) <= 0 {
			return api.ErrOrder
		}
	}
	return api.OK
}
