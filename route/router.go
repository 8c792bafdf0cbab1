package route

import (
	"cmp"
	"slices"
	"strings"

	"holloway/addr"
	"holloway/api"
	"holloway/checks"
	"holloway/span"
	"holloway/times"
)

const maxWeight = 1_000

// CheckRouters validates routers.
func CheckRouters(l []api.Router) api.Errno {
	check := func(x api.Router) api.Errno {
		return cmp.Or(addr.CheckPrefix(x.Prefix), checks.Key(x.Node), checks.Number(x.Weight, 0, maxWeight))
	}
	return checks.Rising(l, api.MaxRouters, check, func(x, y api.Router) int {
		return cmp.Or(span.ComparePrefixes(x.Prefix, y.Prefix), strings.Compare(x.Node, y.Node))
	})
}

// checkAll is what is wrong with routers and what is told of health.
func checkAll(r []api.Router, l []api.Health) api.Errno {
	return cmp.Or(CheckRouters(r), CheckHealth(l))
}

// A group are the nodes that are routers of a prefix, better ones first, with the times of the first router.
type group struct {
	prefix api.Prefix
	nodes  []string
	firsts record
}

// groupsOf are the groups of routers, by their prefixes; nobody is a first router yet.
func groupsOf(r []api.Router) []*group {
	better := slices.SortedStableFunc(slices.Values(r), func(x, y api.Router) int {
		return cmp.Or(span.ComparePrefixes(x.Prefix, y.Prefix), cmp.Compare(y.Weight, x.Weight))
	})
	var out []*group
	for _, x := range better {
		n := len(out)
		if n == 0 || out[n-1].prefix != x.Prefix {
			out = append(out, &group{prefix: x.Prefix})
			n++
		}
		out[n-1].nodes = append(out[n-1].nodes, x.Node)
	}
	return out
}

// settle says who is the first router from a moment on, if these nodes are up.
func (g *group) settle(up map[string]bool, at int) {
	if up[g.firsts.holder()] {
		return
	}
	first := ""
	if i := slices.IndexFunc(g.nodes, func(node string) bool { return up[node] }); i >= 0 {
		first = g.nodes[i]
	}
	g.firsts.give(first, at)
}

// followed are the groups of routers with what comes of all that is told of health.
func followed(r []api.Router, l []api.Health) []*group {
	groups := groupsOf(r)
	of := map[string][]*group{}
	for _, g := range groups {
		for _, node := range g.nodes {
			of[node] = append(of[node], g)
		}
	}
	up := map[string]bool{}
	for at, told := range times.Moments(l, momentOfHealth) {
		for _, h := range told {
			up[h.Node] = h.Up
		}
		for _, h := range told {
			for _, g := range of[h.Node] {
				g.settle(up, at)
			}
		}
	}
	return groups
}

// firstsOf are the times of the first routers of a prefix.
func firstsOf(r []api.Router, l []api.Health, p api.Prefix) (record, api.Errno) {
	if e := cmp.Or(checkAll(r, l), addr.CheckPrefix(p)); e != api.OK {
		return nil, e
	}
	own := slices.DeleteFunc(slices.Clone(r), func(x api.Router) bool { return x.Prefix != p })
	if len(own) == 0 {
		return nil, api.ErrNone
	}
	return followed(own, l)[0].firsts, api.OK
}

// First is the first router of a prefix.
func First(r []api.Router, l []api.Health, p api.Prefix, at int) (string, api.Errno) {
	firsts, e := firstsOf(r, l, p)
	if e = cmp.Or(e, checks.Moment(at)); e != api.OK {
		return "", e
	}
	node := firsts.at(at)
	return node, checks.Need(node != "", api.ErrNone)
}

// leadsAt are the first routers at a moment, by their prefixes.
func leadsAt(r []api.Router, l []api.Health, at int) []api.Lead {
	var out []api.Lead
	for _, g := range followed(r, l) {
		if node := g.firsts.at(at); node != "" {
			out = append(out, api.Lead{Prefix: g.prefix, Node: node})
		}
	}
	return out
}

// Firsts are the first routers of all prefixes.
func Firsts(r []api.Router, l []api.Health, at int) ([]api.Lead, api.Errno) {
	if e := cmp.Or(checkAll(r, l), checks.Moment(at)); e != api.OK {
		return nil, e
	}
	return leadsAt(r, l, at), api.OK
}

// Turns are the times of the first routers of a prefix.
func Turns(r []api.Router, l []api.Health, p api.Prefix) ([]api.Turn, api.Errno) {
	return firstsOf(r, l, p)
}

// Outage is at how many moments of a window a prefix has no first router.
func Outage(r []api.Router, l []api.Health, p api.Prefix, w api.Window) (int, api.Errno) {
	firsts, e := firstsOf(r, l, p)
	if e = cmp.Or(e, checks.Window(w)); e != api.OK {
		return 0, e
	}
	return w.To - w.From - firsts.within(w), api.OK
}

// Way is the longest prefix of an address that has a first router.
func Way(r []api.Router, l []api.Health, a api.Addr, at int) (api.Lead, bool, api.Errno) {
	if e := cmp.Or(checkAll(r, l), addr.CheckAddr(a), checks.Moment(at)); e != api.OK {
		return api.Lead{}, false, e
	}
	var way api.Lead
	for _, x := range leadsAt(r, l, at) {
		// The prefixes of one address come with rising bits in their order.
		if in, _ := addr.Contains(x.Prefix, a); in {
			way = x
		}
	}
	return way, way.Node != "", api.OK
}

// Exits are the nodes that lead everywhere.
func Exits(r []api.Router, l []api.Health, six bool, at int) ([]string, api.Errno) {
	if e := cmp.Or(checkAll(r, l), checks.Moment(at)); e != api.OK {
		return nil, e
	}
	up := upAt(l, at)
	everywhere := api.Prefix{Addr: api.Addr{Six: six}}
	for _, g := range groupsOf(r) {
		if g.prefix == everywhere {
			return slices.DeleteFunc(g.nodes, func(node string) bool { return !up[node] }), api.OK
		}
	}
	return nil, api.OK
}
