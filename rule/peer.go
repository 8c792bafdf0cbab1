package rule

import (
	"maps"
	"slices"

	"holloway/api"
)

// Peers are the other nodes that a node can reach, or that can reach it.
func Peers(s api.Scene, node string) ([]string, api.Errno) {
	v, e := viewOf(s)
	if e != api.OK {
		return nil, e
	}
	i := slices.IndexFunc(s.Nodes, func(n api.Node) bool { return n.Key == node })
	if i < 0 {
		return nil, api.ErrNone
	}
	met := map[string]bool{}
	for _, a := range s.Nodes[i].Addrs {
		for _, g := range v.grants {
			v.meet(g, a, met)
		}
	}
	delete(met, node)
	return slices.Sorted(maps.Keys(met)), api.OK
}

// meet notes the nodes that an address can reach by a grant, or that can reach it. Protocols and ports are not looked at: a grant that is right has some for each of its sources and targets.
func (v *view) meet(g *api.Grant, a api.Addr, met map[string]bool) {
	isSource := v.isSource(g, a)
	for b, n := range v.owners {
		if b.Six != a.Six || met[n.Key] {
			continue
		}
		if isSource && v.leads(g, a, b) || v.leads(g, b, a) && v.isSource(g, b) {
			met[n.Key] = true
		}
	}
}

// leads says whether an address is one of a target of a grant, for flows from another one.
func (v *view) leads(g *api.Grant, from, to api.Addr) bool {
	return slices.ContainsFunc(g.Dst, func(t api.Target) bool { return v.isTarget(t.What, from, to) })
}
