package control

import (
	"cmp"
	"slices"

	"holloway/addr"
	"holloway/api"
	"holloway/lists"
	"holloway/name"
	"holloway/netmap"
	"holloway/node"
)

// MapOf is the map of a node at a moment.
func MapOf(b api.Book, key string, at int) (api.Map, api.Errno) {
	if e := checkAt(b, at); e != api.OK {
		return api.Map{}, e
	}
	w, e := worldAt(b, at)
	if e != api.OK {
		return api.Map{}, e
	}
	return netmap.Make(w, key)
}

// wishesOf are the wishes of some nodes that are there at a moment.
func wishesOf(b api.Book, nodes []api.Node, at int) []api.Wish {
	machines, _ := node.Machines(b.Setting.Directory, b.Steps, at)
	var out []api.Wish
	for _, m := range machines {
		if _, is := nodeOf(nodes, m.Node); is {
			out = append(out, api.Wish{Node: m.Node, Name: m.Name, Joined: m.Joined})
		}
	}
	return out
}

// NamesOf is the zone of the nodes that are live at a moment.
func NamesOf(b api.Book, at int) (api.Zone, api.Errno) {
	if e := checkAt(b, at); e != api.OK {
		return api.Zone{}, e
	}
	s, e := sceneAt(b, at)
	if e != api.OK {
		return api.Zone{}, e
	}
	called, _ := name.Call(wishesOf(b, s.Nodes, at))
	return name.ZoneOf(b.Setting.Suffix, api.NameLife, called, s.Nodes)
}

// addrsOf are the addresses of one kind of a name that is under the root of a zone without aliases: there is no error but that nothing is found.
func addrsOf(z api.Zone, full string, kind int) []api.Addr {
	records, _ := name.Find(z, full, kind)
	return lists.Map(records, func(r api.Record) api.Addr { return r.Addr })
}

// Resolve are the addresses of a name at a moment.
func Resolve(b api.Book, s string, at int) ([]api.Addr, api.Errno) {
	z, e := NamesOf(b, at)
	if e = cmp.Or(e, name.CheckDomain(s)); e != api.OK {
		return nil, e
	}
	full := s
	if is, _ := name.Under(s, z.Root); !is {
		full += "." + z.Root
	}
	if e := name.CheckDomain(full); e != api.OK {
		return nil, e
	}
	return slices.Concat(addrsOf(z, full, api.RecordA), addrsOf(z, full, api.RecordAAAA)), api.OK
}

// WhoIs is the machine that has an address at a moment.
func WhoIs(b api.Book, a api.Addr, at int) (api.Machine, bool, api.Errno) {
	if e := cmp.Or(checkAt(b, at), addr.CheckAddr(a)); e != api.OK {
		return api.Machine{}, false, e
	}
	s, e := sceneAt(b, at)
	if e != api.OK {
		return api.Machine{}, false, e
	}
	i := slices.IndexFunc(s.Nodes, func(n api.Node) bool { return slices.Contains(n.Addrs, a) })
	if i < 0 {
		return api.Machine{}, false, api.OK
	}
	return node.StateOf(b.Setting.Directory, b.Steps, s.Nodes[i].Key, at)
}
