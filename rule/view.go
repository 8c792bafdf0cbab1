package rule

import (
	"cmp"
	"slices"

	"holloway/addr"
	"holloway/api"
	"holloway/span"
)

// A view is a scene that is right, made ready for questions.
type view struct {
	scene  api.Scene
	groups groups
	owners map[api.Addr]*api.Node
	facts  map[api.Fact]bool
	found  map[api.What][]api.Range // the addresses of hosts, and of the whats that were looked up
}

func newView(s api.Scene) *view {
	v := &view{scene: s, groups: groupsOf(s.Policy.Groups)}
	v.owners = make(map[api.Addr]*api.Node, len(s.Nodes))
	for i := range s.Nodes {
		for _, a := range s.Nodes[i].Addrs {
			v.owners[a] = &s.Nodes[i]
		}
	}
	v.facts = make(map[api.Fact]bool, len(s.Facts))
	for _, f := range s.Facts {
		v.facts[f] = true
	}
	v.found = make(map[api.What][]api.Range, len(s.Policy.Hosts))
	for _, h := range s.Policy.Hosts {
		v.found[hostWhat(h.Name)] = span.Of([]api.Prefix{h.Net})
	}
	return v
}

// grants goes through the grants of a view, with their numbers.
func (v *view) grants(yield func(i int, g *api.Grant) bool) {
	l := v.scene.Policy.Grants
	for i := range l {
		if !yield(i, &l[i]) {
			return
		}
	}
}

// userOf is the user of the node that has an address; nothing, if there is none.
func (v *view) userOf(a api.Addr) string {
	if n := v.owners[a]; n != nil {
		return n.User
	}
	return ""
}

// addresses are those of a what, as a least list.
func (v *view) addresses(w api.What) []api.Range {
	l, ok := v.found[w]
	if !ok {
		l = v.find(w)
		v.found[w] = l
	}
	return l
}

// find looks up the addresses of a what that is no host.
func (v *view) find(w api.What) []api.Range {
	switch w.Kind {
	case api.WhatAll:
		return span.Of([]api.Prefix{{}, {Addr: api.Addr{Six: true}}})
	case api.WhatNet:
		return span.Of([]api.Prefix{w.Net})
	}
	names := v.namer(w)
	var out []api.Range
	for i := range v.scene.Nodes {
		if n := &v.scene.Nodes[i]; names(n) {
			out = append(out, span.Singles(n.Addrs)...)
		}
	}
	return span.Join(out)
}

// namer says which nodes a what names, if it names nodes by themselves.
func (v *view) namer(w api.What) func(n *api.Node) bool {
	switch w.Kind {
	case api.WhatUser:
		return func(n *api.Node) bool { return n.User == w.Name }
	case api.WhatGroup:
		users := v.groups.users(w.Name)
		return func(n *api.Node) bool { return users[n.User] }
	case api.WhatTag:
		return func(n *api.Node) bool { return slices.Contains(n.Tags, w.Name) }
	case api.WhatNode:
		return func(n *api.Node) bool { return n.Key == w.Name }
	case api.WhatMember:
		return func(n *api.Node) bool { return n.User != "" }
	case api.WhatTagged:
		return func(n *api.Node) bool { return len(n.Tags) > 0 }
	}
	return func(*api.Node) bool { return false }
}

// edges are ranges at whose ends alone it can change what is decided of an address.
func (v *view) edges() []api.Range {
	var out []api.Range
	for _, n := range v.scene.Nodes {
		out = append(out, span.Singles(n.Addrs)...)
	}
	for _, h := range v.scene.Policy.Hosts {
		out = append(out, span.RangeOf(h.Net))
	}
	for _, w := range whats(v.scene.Policy) {
		if w.Kind == api.WhatNet {
			out = append(out, span.RangeOf(w.Net))
		}
	}
	return out
}

// Addresses are those of what a rule names, as a set.
func Addresses(s api.Scene, w api.What) ([]api.Prefix, api.Errno) {
	v, e := viewOf(s)
	if e = cmp.Or(e, checkWhat(w, defined(s.Policy))); e != api.OK {
		return nil, e
	}
	return slices.Collect(span.Prefixes(v.addresses(w))), api.OK
}

// Owner is the node that has an address.
func Owner(s api.Scene, a api.Addr) (string, bool, api.Errno) {
	v, e := viewOf(s)
	if e = cmp.Or(e, addr.CheckAddr(a)); e != api.OK {
		return "", false, e
	}
	n := v.owners[a]
	if n == nil {
		return "", false, api.OK
	}
	return n.Key, true, api.OK
}
