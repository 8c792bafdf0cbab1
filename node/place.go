package node

import (
	"cmp"
	"slices"

	"holloway/api"
	"holloway/checks"
	"holloway/notation"
)

// checkPlaces validates places.
func checkPlaces(l []api.Place) api.Errno {
	if len(l) > api.MaxNodes {
		return api.ErrLarge
	}
	taken := map[api.Addr]bool{}
	for i, p := range l {
		if !notation.IsKey(p.Node) {
			return api.ErrName
		}
		if i > 0 && p.Node <= l[i-1].Node {
			return api.ErrOrder
		}
		if e := cmp.Or(checks.Addrs(p.Addrs, taken, api.ErrConflict), checks.Routes(p.Routes)); e != api.OK {
			return e
		}
	}
	return api.OK
}

// Nodes are the live nodes at a moment, with their places.
func Nodes(d api.Directory, l []api.Step, places []api.Place, at int) ([]api.Node, api.Errno) {
	n, e := networkAt(d, l, checkPlaces(places), at)
	if e != api.OK {
		return nil, e
	}
	placeOf := make(map[string]api.Place, len(places))
	for _, p := range places {
		placeOf[p.Node] = p
	}
	var out []api.Node
	for _, m := range n.liveAt(at) {
		p := placeOf[m.Node]
		x := api.Node{Key: m.Node, User: m.User, Name: m.Name, Tags: slices.Clone(m.Tags)}
		x.Addrs, x.Routes = slices.Clone(p.Addrs), slices.Clone(p.Routes)
		out = append(out, x)
	}
	return out, api.OK
}
