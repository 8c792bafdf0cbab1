package rule

import (
	"maps"
	"slices"

	"holloway/api"
	"holloway/span"
)

// A bridge is from whom to whom a grant leads, as least lists; self: nodes of one user are targets for each other.
type bridge struct {
	src, dst []api.Range
	self     bool
}

// bridgeOf is the bridge of a grant. All addresses of a scene are held against it, so that the whats are joined once.
func (v *view) bridgeOf(g *api.Grant) bridge {
	var out bridge
	for _, w := range g.Src {
		out.src = append(out.src, v.addresses(w)...)
	}
	for _, t := range g.Dst {
		out.dst = append(out.dst, v.addresses(t.What)...)
		out.self = out.self || t.What.Kind == api.WhatSelf
	}
	out.src, out.dst = span.Join(out.src), span.Join(out.dst)
	return out
}

// Peers are the other nodes that a node can reach, or that can reach it.
func Peers(s api.Scene, node string) ([]string, api.Errno) {
	v, e := viewOf(s)
	if e != api.OK {
		return nil, e
	}
	i := slices.IndexFunc(s.Nodes, func(n api.Node) bool { return n.Key == node })
	if i < 0 {
		return nil, api.ErrNone
	}
	met := map[string]bool{}
	for _, g := range v.grants {
		x := v.bridgeOf(g)
		for _, a := range s.Nodes[i].Addrs {
			v.meet(g, x, a, met)
		}
	}
	delete(met, node)
	return slices.Sorted(maps.Keys(met)), api.OK
}

// meet notes the nodes that an address can reach by a grant with its bridge, or that can reach it. Protocols and ports are not looked at: a grant that is right has some for each of its sources and targets.
func (v *view) meet(g *api.Grant, x bridge, a api.Addr, met map[string]bool) {
	isSource := func(b api.Addr) bool { return span.Has(x.src, b) && v.meets(g.Postures, b) }
	from, to, user := isSource(a), span.Has(x.dst, a), v.userOf(a)
	if !from && !to && !x.self {
		return
	}
	for b, n := range v.owners {
		if b.Six != a.Six || met[n.Key] {
			continue
		}
		own := x.self && user != "" && user == n.User
		if from && (own || span.Has(x.dst, b)) || (own || to) && isSource(b) {
			met[n.Key] = true
		}
	}
}
