package rule

import (
	"slices"
	"strings"

	"holloway/addr"
	"holloway/api"
	"holloway/checks"
	"holloway/ports"
)

// CheckPolicy validates a policy.
func CheckPolicy(p api.Policy) api.Errno {
	if e := checkGroups(p.Groups); e != api.OK {
		return e
	}
	if e := checkHosts(p.Hosts); e != api.OK {
		return e
	}
	if e := checkGrants(p); e != api.OK {
		return e
	}
	return checkTests(p.Tests)
}

// checkHosts validates hosts.
func checkHosts(l []api.Host) api.Errno {
	key := func(h api.Host) api.Errno { return checks.Key(h.Name) }
	byName := func(x, y api.Host) int { return strings.Compare(x.Name, y.Name) }
	return checks.Rising(l, api.MaxHosts, key, byName, func(h api.Host) api.Errno { return addr.CheckPrefix(h.Net) })
}

// checkGrants validates the grants of a policy whose groups and hosts are right.
func checkGrants(p api.Policy) api.Errno {
	known := defined(p)
	return checks.Each(p.Grants, api.MaxRules, func(g api.Grant) api.Errno { return checkGrant(g, known) })
}

// checkGrant is what is wrong with a grant; of groups and hosts there are those that are known.
func checkGrant(g api.Grant, known map[api.What]bool) api.Errno {
	if len(g.Src) == 0 || len(g.Dst) == 0 {
		return api.ErrForm
	}
	if len(g.Src) > api.MaxWhats || len(g.Dst) > api.MaxWhats {
		return api.ErrLarge
	}
	if e := checkEnds(g, known); e != api.OK {
		return e
	}
	if g.Proto < 0 || g.Proto > api.MaxProto {
		return api.ErrArg
	}
	someOnly := slices.ContainsFunc(g.Dst, func(t api.Target) bool { return t.Ports != ports.All() })
	if someOnly && g.Proto != api.ProtoAll && !ports.UsedBy(g.Proto) {
		return api.ErrRule
	}
	if e := checks.Keys(g.Postures); e != api.OK {
		return e
	}
	if len(g.Postures) > api.MaxWhats {
		return api.ErrLarge
	}
	return api.OK
}

// checkEnds is what is wrong with the sources of a grant, or with its targets.
func checkEnds(g api.Grant, known map[api.What]bool) api.Errno {
	for _, w := range g.Src {
		if e := checkWhat(w, known); e != api.OK {
			return e
		}
		if w.Kind == api.WhatSelf {
			return api.ErrKind
		}
	}
	for _, t := range g.Dst {
		if e := checkWhat(t.What, known); e != api.OK {
			return e
		}
		if !ports.IsRight(t.Ports) {
			return api.ErrArg
		}
	}
	return api.OK
}

// checkTests validates tests.
func checkTests(l []api.Test) api.Errno {
	return checks.Each(l, api.MaxTests, func(t api.Test) api.Errno { return checks.Flow(t.Flow) })
}
