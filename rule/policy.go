package rule

import (
	"slices"

	"holloway/addr"
	"holloway/api"
	"holloway/checks"
	"holloway/notation"
	"holloway/ports"
)

// CheckPolicy validates a policy.
func CheckPolicy(p api.Policy) api.Errno {
	if e := checkGroups(p.Groups); e != api.OK {
		return e
	}
	if e := checkHosts(p.Hosts); e != api.OK {
		return e
	}
	if e := checkGrants(p); e != api.OK {
		return e
	}
	return checkTests(p.Tests)
}

// checkHosts validates hosts.
func checkHosts(l []api.Host) api.Errno {
	if len(l) > api.MaxHosts {
		return api.ErrLarge
	}
	for i, h := range l {
		if !notation.IsKey(h.Name) {
			return api.ErrName
		}
		if i > 0 && h.Name <= l[i-1].Name {
			return api.ErrOrder
		}
		if e := addr.CheckPrefix(h.Net); e != api.OK {
			return e
		}
	}
	return api.OK
}

// checkGrants validates the grants of a policy whose groups and hosts are right.
func checkGrants(p api.Policy) api.Errno {
	if len(p.Grants) > api.MaxRules {
		return api.ErrLarge
	}
	known := defined(p)
	for _, g := range p.Grants {
		if e := checkGrant(g, known); e != api.OK {
			return e
		}
	}
	return api.OK
}

// checkGrant is what is wrong with a grant; of groups and hosts there are those that are known.
func checkGrant(g api.Grant, known map[api.What]bool) api.Errno {
	if len(g.Src) == 0 || len(g.Dst) == 0 {
		return api.ErrForm
	}
	if len(g.Src) > api.MaxWhats || len(g.Dst) > api.MaxWhats {
		return api.ErrLarge
	}
	if e := checkEnds(g, known); e != api.OK {
		return e
	}
	if g.Proto < 0 || g.Proto > api.MaxProto {
		return api.ErrArg
	}
	someOnly := slices.ContainsFunc(g.Dst, func(t api.Target) bool { return t.Ports != ports.All() })
	if someOnly && g.Proto != api.ProtoAll && !ports.UsedBy(g.Proto) {
		return api.ErrRule
	}
	if e := checks.Keys(g.Postures); e != api.OK {
		return e
	}
	if len(g.Postures) > api.MaxWhats {
		return api.ErrLarge
	}
	return api.OK
}

// checkEnds is what is wrong with the sources of a grant, or with its targets.
func checkEnds(g api.Grant, known map[api.What]bool) api.Errno {
	for _, w := range g.Src {
		if e := checkWhat(w, known); e != api.OK {
			return e
		}
		if w.Kind == api.WhatSelf {
			return api.ErrKind
		}
	}
	for _, t := range g.Dst {
		if e := checkWhat(t.What, known); e != api.OK {
			return e
		}
		if !ports.IsRight(t.Ports) {
			return api.ErrArg
		}
	}
	return api.OK
}

// checkTests validates tests.
func checkTests(l []api.Test) api.Errno {
	if len(l) > api.MaxTests {
		return api.ErrLarge
	}
	for _, t := range l {
		if e := checks.Flow(t.Flow); e != api.OK {
			return e
		}
	}
	return api.OK
}
