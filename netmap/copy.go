package netmap

import (
	"slices"

	"holloway/api"
	"holloway/lists"
	"holloway/values"
)

func samePeer(x, y api.Peer) bool {
	return x.Key == y.Key && x.Name == y.Name && slices.Equal(x.Addrs, y.Addrs) && slices.Equal(x.Routes, y.Routes)
}

func sameRow(x, y api.Filter) bool {
	return x.Proto == y.Proto && slices.Equal(x.Src, y.Src) && slices.Equal(x.Dst, y.Dst) && slices.Equal(x.Ports, y.Ports)
}

func sameRows(x, y []api.Filter) bool { return slices.EqualFunc(x, y, sameRow) }

func sameMap(x, y api.Map) bool {
	return values.SameNode(x.Self, y.Self) && slices.EqualFunc(x.Peers, y.Peers, samePeer) && sameRows(x.Filters, y.Filters) && x.Suffix == y.Suffix
}

func clonePeer(p api.Peer) api.Peer {
	p.Addrs, p.Routes = slices.Clone(p.Addrs), slices.Clone(p.Routes)
	return p
}

func clonePeers(l []api.Peer) []api.Peer { return lists.Map(l, clonePeer) }

func cloneRows(l []api.Filter) []api.Filter {
	return lists.Map(l, func(f api.Filter) api.Filter {
		f.Src, f.Dst, f.Ports = slices.Clone(f.Src), slices.Clone(f.Dst), slices.Clone(f.Ports)
		return f
	})
}

func cloneMap(m api.Map) api.Map {
	m.Self, m.Peers, m.Filters = values.CopyNode(m.Self), clonePeers(m.Peers), cloneRows(m.Filters)
	return m
}

func cloneWorld(w api.World) api.World {
	s := &w.Scene
	s.Nodes, s.Facts, w.Firsts = lists.Map(s.Nodes, values.CopyNode), slices.Clone(s.Facts), slices.Clone(w.Firsts)
	s.Policy = values.CopyPolicy(s.Policy)
	return w
}
