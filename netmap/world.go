package netmap

import (
	"cmp"
	"slices"

	"holloway/addr"
	"holloway/api"
	"holloway/checks"
	"holloway/filter"
	"holloway/lists"
	"holloway/ports"
	"holloway/rule"
	"holloway/span"
	"holloway/values"
	"holloway/whats"
)

// CheckWorld validates a world.
func CheckWorld(w api.World) api.Errno {
	if e := rule.Check(w.Scene); e != api.OK {
		return e
	}
	return cmp.Or(checkFirsts(w), checks.Suffix(w.Suffix))
}

// checkFirsts is what is wrong with who leads where in a world whose scene is right.
func checkFirsts(w api.World) api.Errno {
	routes := map[string][]api.Prefix{}
	for _, n := range w.Scene.Nodes {
		routes[n.Key] = n.Routes
	}
	check := func(f api.First) api.Errno {
		l, is := routes[f.Node]
		return cmp.Or(addr.CheckPrefix(f.Prefix), checks.Need(is, api.ErrNone), checks.Need(slices.Contains(l, f.Prefix), api.ErrRule))
	}
	byPrefix := func(x, y api.First) int { return span.ComparePrefixes(x.Prefix, y.Prefix) }
	return checks.Rising(w.Firsts, api.MaxFirsts, check, byPrefix)
}

// Make is the map of a node.
func Make(w api.World, node string) (api.Map, api.Errno) {
	if e := CheckWorld(w); e != api.OK {
		return api.Map{}, e
	}
	return mapOf(w, node)
}

// mapOf is the map of a node of a world that is right.
func mapOf(w api.World, node string) (api.Map, api.Errno) {
	rows, e := filter.Compile(w.Scene, node)
	if e != api.OK {
		return api.Map{}, e
	}
	// The node is there: Compile says if it is not.
	i := slices.IndexFunc(w.Scene.Nodes, func(n api.Node) bool { return n.Key == node })
	self := values.CopyNode(w.Scene.Nodes[i])
	return api.Map{Self: self, Peers: peersOf(w, self), Filters: rows, Suffix: w.Suffix}, api.OK
}

// peersOf are the peers of a node.
func peersOf(w api.World, self api.Node) []api.Peer {
	near, _ := rule.Peers(w.Scene, self.Key)
	routes := routesFor(w, self)
	var out []api.Peer
	for _, n := range w.Scene.Nodes {
		if _, is := slices.BinarySearch(near, n.Key); is || len(routes[n.Key]) > 0 {
			out = append(out, api.Peer{Key: n.Key, Name: n.Name, Addrs: slices.Clone(n.Addrs), Routes: routes[n.Key]})
		}
	}
	return out
}

// routesFor are the prefixes that a node may reach, by the other nodes that lead there.
func routesFor(w api.World, self api.Node) map[string][]api.Prefix {
	reach := reachOf(w.Scene, self)
	out := map[string][]api.Prefix{}
	for _, f := range w.Firsts {
		if f.Node != self.Key && span.Meets(reach, span.RangeOf(f.Prefix)) {
			out[f.Node] = append(out[f.Node], f.Prefix)
		}
	}
	return out
}

// reachOf are the addresses that a node may reach by some flow, as a least list.
func reachOf(s api.Scene, n api.Node) []api.Range {
	addresses := whats.Addresses(s)
	var out []api.Range
	for _, a := range n.Addrs {
		for w := range goals(s, n.User, a) {
			for _, r := range addresses(w) {
				if r.First.Six == a.Six {
					out = append(out, r)
				}
			}
		}
	}
	return span.Join(out)
}

// goals are the whats that an address of a node of a user may reach. Protocols and ports are not looked at: a grant that is right has some for each of its targets.
func goals(s api.Scene, user string, a api.Addr) map[api.What]bool {
	out := map[api.What]bool{}
	for _, i := range grantsFrom(s, a) {
		for _, t := range s.Policy.Grants[i].Dst {
			switch {
			case t.What.Kind != api.WhatSelf:
				out[t.What] = true
			case user != "":
				out[api.What{Kind: api.WhatUser, Name: user}] = true
			}
		}
	}
	return out
}

// grantsFrom are the numbers of the grants of which an address is a source: those that would permit a flow from it if they were for all targets.
func grantsFrom(s api.Scene, a api.Addr) []int {
	s.Policy.Grants = lists.Map(s.Policy.Grants, func(g api.Grant) api.Grant {
		g.Proto, g.Dst = api.ProtoAll, []api.Target{{What: api.What{Kind: api.WhatAll}, Ports: ports.All()}}
		return g
	})
	out, _ := rule.Why(s, api.Flow{Proto: api.ProtoTcp, From: a, To: a})
	return out
}
