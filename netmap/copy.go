package netmap

import (
	"slices"

	"holloway/api"
	"holloway/lists"
)

func sameNode(x, y api.Node) bool {
	names := x.Key == y.Key && x.User == y.User && x.Name == y.Name
	return names && slices.Equal(x.Tags, y.Tags) && slices.Equal(x.Addrs, y.Addrs) && slices.Equal(x.Routes, y.Routes)
}

func samePeer(x, y api.Peer) bool {
	return x.Key == y.Key && x.Name == y.Name && slices.Equal(x.Addrs, y.Addrs) && slices.Equal(x.Routes, y.Routes)
}

func sameRow(x, y api.Filter) bool {
	return x.Proto == y.Proto && slices.Equal(x.Src, y.Src) && slices.Equal(x.Dst, y.Dst) && slices.Equal(x.Ports, y.Ports)
}

func sameRows(x, y []api.Filter) bool { return slices.EqualFunc(x, y, sameRow) }

func sameMap(x, y api.Map) bool {
	return sameNode(x.Self, y.Self) && slices.EqualFunc(x.Peers, y.Peers, samePeer) && sameRows(x.Filters, y.Filters) && x.Suffix == y.Suffix
}

func cloneNode(n api.Node) api.Node {
	n.Tags, n.Addrs, n.Routes = slices.Clone(n.Tags), slices.Clone(n.Addrs), slices.Clone(n.Routes)
	return n
}

func clonePeer(p api.Peer) api.Peer {
	p.Addrs, p.Routes = slices.Clone(p.Addrs), slices.Clone(p.Routes)
	return p
}

func clonePeers(l []api.Peer) []api.Peer { return lists.Map(l, clonePeer) }

func cloneRows(l []api.Filter) []api.Filter {
	return lists.Map(l, func(f api.Filter) api.Filter {
		f.Src, f.Dst, f.Ports = slices.Clone(f.Src), slices.Clone(f.Dst), slices.Clone(f.Ports)
		return f
	})
}

func cloneMap(m api.Map) api.Map {
	m.Self, m.Peers, m.Filters = cloneNode(m.Self), clonePeers(m.Peers), cloneRows(m.Filters)
	return m
}

func cloneGroup(g api.Group) api.Group {
	g.Members = slices.Clone(g.Members)
	return g
}

func cloneGrant(g api.Grant) api.Grant {
	g.Src, g.Dst, g.Postures = slices.Clone(g.Src), slices.Clone(g.Dst), slices.Clone(g.Postures)
	return g
}

func cloneWorld(w api.World) api.World {
	s := &w.Scene
	s.Nodes, s.Facts, w.Firsts = lists.Map(s.Nodes, cloneNode), slices.Clone(s.Facts), slices.Clone(w.Firsts)
	p := &s.Policy
	p.Groups, p.Hosts = lists.Map(p.Groups, cloneGroup), slices.Clone(p.Hosts)
	p.Grants, p.Tests = lists.Map(p.Grants, cloneGrant), slices.Clone(p.Tests)
	return w
}
