// Package values makes copies of values in memory of their own, and says whether two of them are the same.
package values

import (
	"slices"

	"holloway/api"
	"holloway/lists"
)

// CopyNode is a node in memory of its own.
func CopyNode(n api.Node) api.Node {
	n.Tags, n.Addrs, n.Routes = slices.Clone(n.Tags), slices.Clone(n.Addrs), slices.Clone(n.Routes)
	return n
}

// SameNode says whether two nodes are the same.
func SameNode(x, y api.Node) bool {
	names := x.Key == y.Key && x.User == y.User && x.Name == y.Name
	return names && slices.Equal(x.Tags, y.Tags) && slices.Equal(x.Addrs, y.Addrs) && slices.Equal(x.Routes, y.Routes)
}

func copyGroup(g api.Group) api.Group {
	g.Members = slices.Clone(g.Members)
	return g
}

func sameGroup(x, y api.Group) bool { return x.Name == y.Name && slices.Equal(x.Members, y.Members) }

func copyGrant(g api.Grant) api.Grant {
	g.Src, g.Dst, g.Postures = slices.Clone(g.Src), slices.Clone(g.Dst), slices.Clone(g.Postures)
	return g
}

func sameGrant(x, y api.Grant) bool {
	ends := slices.Equal(x.Src, y.Src) && slices.Equal(x.Dst, y.Dst)
	return ends && x.Proto == y.Proto && slices.Equal(x.Postures, y.Postures)
}

// CopyPolicy is a policy in memory of its own.
func CopyPolicy(p api.Policy) api.Policy {
	p.Groups, p.Hosts = lists.Map(p.Groups, copyGroup), slices.Clone(p.Hosts)
	p.Grants, p.Tests = lists.Map(p.Grants, copyGrant), slices.Clone(p.Tests)
	return p
}

// SamePolicy says whether two policies are the same.
func SamePolicy(x, y api.Policy) bool {
	named := slices.EqualFunc(x.Groups, y.Groups, sameGroup) && slices.Equal(x.Hosts, y.Hosts)
	return named && slices.EqualFunc(x.Grants, y.Grants, sameGrant) && slices.Equal(x.Tests, y.Tests)
}
