package rule

import (
	"maps"
	"slices"
	"strings"

	"holloway/api"
	"holloway/checks"
	"holloway/notation"
)

// groups are the members of groups, by their names.
type groups map[string][]string

func groupsOf(l []api.Group) groups {
	out := make(groups, len(l))
	for _, g := range l {
		out[g.Name] = g.Members
	}
	return out
}

// innerOf is the group that a member is, if it is one.
func innerOf(member string) (string, bool) { return strings.CutPrefix(member, "@") }

// under are the groups to which one comes from a group, going to those that are members.
func (g groups) under(name string) map[string]bool {
	found := map[string]bool{}
	var visit func(name string)
	visit = func(name string) {
		for _, m := range g[name] {
			if inner, ok := innerOf(m); ok && !found[inner] {
				found[inner] = true
				visit(inner)
			}
		}
	}
	visit(name)
	return found
}

// users are those of a group, and of the groups under it.
func (g groups) users(name string) map[string]bool {
	all := g.under(name)
	all[name] = true
	out := map[string]bool{}
	for group := range all {
		for _, m := range g[group] {
			if _, ok := innerOf(m); !ok {
				out[m] = true
			}
		}
	}
	return out
}

// Users are the users of a group.
func Users(p api.Policy, group string) ([]string, api.Errno) {
	if e := CheckPolicy(p); e != api.OK {
		return nil, e
	}
	g := groupsOf(p.Groups)
	if _, ok := g[group]; !ok {
		return nil, api.ErrNone
	}
	return slices.Sorted(maps.Keys(g.users(group))), api.OK
}

// checkGroups validates groups.
func checkGroups(l []api.Group) api.Errno {
	key := func(g api.Group) api.Errno { return checks.Key(g.Name) }
	byName := func(x, y api.Group) int { return strings.Compare(x.Name, y.Name) }
	e := checks.Rising(l, api.MaxGroups, key, byName, func(g api.Group) api.Errno { return checkMembers(g.Members) })
	if e != api.OK {
		return e
	}
	return checkInner(l)
}

// checkMembers is what is wrong with the members of a group, looked at by themselves.
func checkMembers(l []string) api.Errno {
	if len(l) > api.MaxMembers {
		return api.ErrLarge
	}
	for i, m := range l {
		if !notation.IsKey(strings.TrimPrefix(m, "@")) {
			return api.ErrName
		}
		if slices.Contains(l[:i], m) {
			return api.ErrTwice
		}
	}
	return api.OK
}

// checkInner is what is wrong with the groups that are members of groups.
func checkInner(l []api.Group) api.Errno {
	all := groupsOf(l)
	for _, g := range l {
		for _, m := range g.Members {
			inner, ok := innerOf(m)
			if _, known := all[inner]; ok && !known {
				return api.ErrNone
			}
		}
	}
	for _, g := range l {
		if all.under(g.Name)[g.Name] {
			return api.ErrLoop
		}
	}
	return api.OK
}
