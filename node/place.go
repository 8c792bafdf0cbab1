package node

import (
	"slices"

	"holloway/api"
	"holloway/checks"
)

// Nodes are the live nodes at a moment, with their places.
func Nodes(d api.Directory, l []api.Step, places []api.Place, at int) ([]api.Node, api.Errno) {
	n, e := networkAt(d, l, checks.Places(places), at)
	if e != api.OK {
		return nil, e
	}
	placeOf := make(map[string]api.Place, len(places))
	for _, p := range places {
		placeOf[p.Node] = p
	}
	var out []api.Node
	for _, m := range n.liveAt(at) {
		p := placeOf[m.Node]
		x := api.Node{Key: m.Node, User: m.User, Name: m.Name, Tags: slices.Clone(m.Tags)}
		x.Addrs, x.Routes = slices.Clone(p.Addrs), slices.Clone(p.Routes)
		out = append(out, x)
	}
	return out, api.OK
}
