package posture

import (
	"cmp"
	"slices"

	"holloway/api"
	"holloway/checks"
	"holloway/lists"
	"holloway/orders"
)

func momentOfClaim(x api.Claim) int { return x.At }

// CheckClaims validates claims.
func CheckClaims(l []api.Claim) api.Errno {
	return checks.Rising(l, api.MaxClaims, func(x api.Claim) api.Errno {
		return cmp.Or(checks.Moment(x.At), checks.Key(x.Node), checks.Key(x.Name), checkAttr(x.Value))
	}, orders.Claims)
}

// Merge are the claims of two lists.
func Merge(a, b []api.Claim) ([]api.Claim, api.Errno) {
	if e := cmp.Or(CheckClaims(a), CheckClaims(b)); e != api.OK {
		return nil, e
	}
	return lists.Merge(a, b, api.MaxClaims, orders.Claims)
}

// checkFresh is what is wrong with for how many seconds a claim is fresh.
func checkFresh(fresh int) api.Errno { return checks.Number(fresh, 1, api.End) }

// values are what is known of the attributes of a node, by their names; of others there is a zero one.
type values map[string]api.Attr

// knownAt is what is known at a moment, by nodes.
func knownAt(l []api.Claim, fresh, at int) map[string]values {
	out := map[string]values{}
	for _, x := range l {
		if x.At > at || x.At+fresh <= at {
			continue
		}
		if out[x.Node] == nil {
			out[x.Node] = values{}
		}
		out[x.Node][x.Name] = x.Value
	}
	return out
}

// ValueAt is what is known of an attribute of a node.
func ValueAt(l []api.Claim, fresh int, node, name string, at int) (api.Attr, bool, api.Errno) {
	right := cmp.Or(CheckClaims(l), checkFresh(fresh), checks.Key(node), checks.Key(name), checks.Moment(at))
	if right != api.OK {
		return api.Attr{}, false, right
	}
	value, is := knownAt(l, fresh, at)[node][name]
	return value, is, api.OK
}

// An owned is an attribute of a node, by its name.
type owned struct{ node, name string }

// withEnds are claims with a claim of a zero value at each moment from which on nothing is known of an attribute.
func withEnds(l []api.Claim, fresh int) []api.Claim {
	out := slices.Clone(l)
	next := map[owned]int{}
	for _, x := range slices.Backward(l) {
		of := owned{node: x.Node, name: x.Name}
		old := x.At + fresh
		if newer, is := next[of]; old < api.End && (!is || newer > old) {
			out = append(out, api.Claim{At: old, Node: x.Node, Name: x.Name})
		}
		next[of] = x.At
	}
	slices.SortFunc(out, orders.Claims)
	return out
}

// byNodes are claims by their nodes, in their order.
func byNodes(l []api.Claim) map[string][]api.Claim {
	out := map[string][]api.Claim{}
	for _, x := range l {
		out[x.Node] = append(out[x.Node], x)
	}
	return out
}
