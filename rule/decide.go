package rule

import (
	"slices"

	"holloway/api"
	"holloway/ports"
	"holloway/span"
)

// takes says whether a grant is for a protocol.
func takes(g *api.Grant, proto int) bool { return g.Proto == api.ProtoAll || g.Proto == proto }

// isSource says whether an address is one of a source of a grant, and meets its postures.
func (v *view) isSource(g *api.Grant, a api.Addr) bool {
	return v.meets(g.Postures, a) && slices.ContainsFunc(g.Src, func(w api.What) bool { return span.Has(v.addresses(w), a) })
}

// meets says whether none of some postures is needed, or the node that has an address meets one of them.
func (v *view) meets(postures []string, a api.Addr) bool {
	if len(postures) == 0 {
		return true
	}
	n := v.owners[a]
	return n != nil && slices.ContainsFunc(postures, func(p string) bool { return v.facts[api.Fact{Node: n.Key, Posture: p}] })
}

// isTarget says whether an address is one of a what, for flows from another one.
func (v *view) isTarget(w api.What, from, to api.Addr) bool {
	if w.Kind == api.WhatSelf {
		user := v.userOf(from)
		return user != "" && user == v.userOf(to)
	}
	return span.Has(v.addresses(w), to)
}

// doors are the ports at which a grant lets an address reach another one.
func (v *view) doors(g *api.Grant, from, to api.Addr) []api.Ports {
	if !v.isSource(g, from) {
		return nil
	}
	var out []api.Ports
	for _, t := range g.Dst {
		if v.isTarget(t.What, from, to) {
			out = append(out, t.Ports)
		}
	}
	return out
}

// permits says whether a grant permits a flow.
func (v *view) permits(g *api.Grant, f api.Flow) bool {
	return takes(g, f.Proto) && ports.Has(v.doors(g, f.From, f.To), f.ToPort)
}

// permitted says whether the policy permits a flow.
func (v *view) permitted(f api.Flow) bool {
	for _, g := range v.grants {
		if v.permits(g, f) {
			return true
		}
	}
	return false
}

// Permits says whether the policy permits a flow.
func Permits(s api.Scene, f api.Flow) (bool, api.Errno) {
	v, e := viewFor(s, f)
	return e == api.OK && v.permitted(f), e
}

// Why are the numbers of the grants that permit a flow.
func Why(s api.Scene, f api.Flow) ([]int, api.Errno) {
	v, e := viewFor(s, f)
	if e != api.OK {
		return nil, e
	}
	var out []int
	for i, g := range v.grants {
		if v.permits(g, f) {
			out = append(out, i)
		}
	}
	return out, api.OK
}

// Sources are all From with which a flow would be permitted.
func Sources(s api.Scene, f api.Flow) ([]api.Prefix, api.Errno) {
	return ends(s, f, func(f api.Flow, a api.Addr) api.Flow {
		f.From = a
		return f
	})
}

// Targets are all To with which a flow would be permitted.
func Targets(s api.Scene, f api.Flow) ([]api.Prefix, api.Errno) {
	return ends(s, f, func(f api.Flow, a api.Addr) api.Flow {
		f.To = a
		return f
	})
}

// ends is the set of all addresses of the length of a flow's with which it would be permitted.
func ends(s api.Scene, f api.Flow, with func(f api.Flow, a api.Addr) api.Flow) ([]api.Prefix, api.Errno) {
	v, e := viewFor(s, f)
	if e != api.OK {
		return nil, e
	}
	holds := func(a api.Addr) bool { return a.Six == f.To.Six && v.permitted(with(f, a)) }
	return slices.Collect(span.Prefixes(span.Where(span.Cuts(v.edges()), holds))), api.OK
}

// Open are the ports at which somebody can be reached.
func Open(s api.Scene, f api.Flow) ([]api.Ports, api.Errno) {
	v, e := viewFor(s, f)
	if e != api.OK {
		return nil, e
	}
	var out []api.Ports
	for _, g := range v.grants {
		if takes(g, f.Proto) {
			out = append(out, v.doors(g, f.From, f.To)...)
		}
	}
	if ports.UsedBy(f.Proto) {
		return ports.Join(out), api.OK
	}
	if ports.Has(out, 0) {
		return []api.Ports{{}}, api.OK
	}
	return nil, api.OK
}

// Failures are the numbers of the tests that fail.
func Failures(s api.Scene) ([]int, api.Errno) {
	v, e := viewOf(s)
	if e != api.OK {
		return nil, e
	}
	var out []int
	for i, t := range s.Policy.Tests {
		if v.permitted(t.Flow) != t.Accept {
			out = append(out, i)
		}
	}
	return out, api.OK
}
