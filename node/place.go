package node

import (
	"slices"

	"holloway/addr"
	"holloway/api"
	"holloway/notation"
)

// checkPlaces validates places.
func checkPlaces(l []api.Place) api.Errno {
	if len(l) > api.MaxNodes {
		return api.ErrLarge
	}
	taken := map[api.Addr]bool{}
	for i, p := range l {
		if !notation.IsKey(p.Node) {
			return api.ErrName
		}
		if i > 0 && p.Node <= l[i-1].Node {
			return api.ErrOrder
		}
		if e := checkAddrs(p.Addrs, taken); e != api.OK {
			return e
		}
		if e := checkRoutes(p.Routes); e != api.OK {
			return e
		}
	}
	return api.OK
}

// checkAddrs validates the addresses of a place, and notes that they are taken.
func checkAddrs(l []api.Addr, taken map[api.Addr]bool) api.Errno {
	if len(l) > api.MaxAddrs {
		return api.ErrLarge
	}
	for _, a := range l {
		if e := addr.CheckAddr(a); e != api.OK {
			return e
		}
		if taken[a] {
			return api.ErrConflict
		}
		taken[a] = true
	}
	return api.OK
}

// checkRoutes validates the routes of a place.
func checkRoutes(l []api.Prefix) api.Errno {
	if len(l) > api.MaxRoutes {
		return api.ErrLarge
	}
	for i, p := range l {
		if e := addr.CheckPrefix(p); e != api.OK {
			return e
		}
		if slices.Contains(l[:i], p) {
			return api.ErrTwice
		}
	}
	return api.OK
}

// Nodes are the live nodes at a moment, with their places.
func Nodes(d api.Directory, l []api.Step, places []api.Place, at int) ([]api.Node, api.Errno) {
	n, e := networkAt(d, l, checkPlaces(places), at)
	if e != api.OK {
		return nil, e
	}
	placeOf := make(map[string]api.Place, len(places))
	for _, p := range places {
		placeOf[p.Node] = p
	}
	var out []api.Node
	for _, m := range n.liveAt(at) {
		p := placeOf[m.Node]
		x := api.Node{Key: m.Node, User: m.User, Name: m.Name, Tags: slices.Clone(m.Tags)}
		x.Addrs, x.Routes = slices.Clone(p.Addrs), slices.Clone(p.Routes)
		out = append(out, x)
	}
	return out, api.OK
}
