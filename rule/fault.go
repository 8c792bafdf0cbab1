package rule

import (
	"slices"

	"holloway/api"
)

// Faults are the parts of a policy that say nothing.
func Faults(s api.Scene) ([]api.Fault, api.Errno) {
	v, e := viewOf(s)
	if e != api.OK {
		return nil, e
	}
	named := namedBy(s.Policy)
	var out []api.Fault
	for i, g := range s.Policy.Groups {
		if !named[groupWhat(g.Name)] {
			out = append(out, api.Fault{What: api.FaultGroup, Number: i})
		}
	}
	for i, h := range s.Policy.Hosts {
		if !named[hostWhat(h.Name)] {
			out = append(out, api.Fault{What: api.FaultHost, Number: i})
		}
	}
	for i, g := range v.grants {
		if !v.hasSource(g) || !v.hasTarget(g) {
			out = append(out, api.Fault{What: api.FaultEmpty, Number: i})
		}
	}
	return out, api.OK
}

// namedBy are the whats that a policy names, also groups that are members.
func namedBy(p api.Policy) map[api.What]bool {
	out := map[api.What]bool{}
	for _, w := range whats(p) {
		out[w] = true
	}
	for _, g := range p.Groups {
		for _, m := range g.Members {
			if inner, ok := innerOf(m); ok {
				out[groupWhat(inner)] = true
			}
		}
	}
	return out
}

// hasSource says whether there is a source address for a grant.
func (v *view) hasSource(g *api.Grant) bool {
	if len(g.Postures) > 0 {
		return v.someNode(func(a api.Addr) bool { return v.isSource(g, a) })
	}
	return slices.ContainsFunc(g.Src, func(w api.What) bool { return len(v.addresses(w)) > 0 })
}

// hasTarget says whether there is a target address for a grant.
func (v *view) hasTarget(g *api.Grant) bool {
	return slices.ContainsFunc(g.Dst, func(t api.Target) bool {
		if t.What.Kind == api.WhatSelf {
			return v.someNode(func(a api.Addr) bool { return v.userOf(a) != "" && v.isSource(g, a) })
		}
		return len(v.addresses(t.What)) > 0
	})
}

// someNode says whether something holds for an address of a node.
func (v *view) someNode(holds func(a api.Addr) bool) bool {
	for a := range v.owners {
		if holds(a) {
			return true
		}
	}
	return false
}
