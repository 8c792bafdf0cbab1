package filter

import (
	"maps"
	"slices"

	"holloway/api"
	"holloway/rule"
	"holloway/span"
	"holloway/whats"
)

// Ground are the addresses and routes of a node.
func Ground(n api.Node) ([]api.Prefix, api.Errno) {
	if e := rule.CheckNodes([]api.Node{n}); e != api.OK {
		return nil, e
	}
	return setOf(groundOf(n))
}

// groundOf is the ground of a node that is right.
func groundOf(n api.Node) []api.Range {
	return span.Join(slices.Concat(span.Singles(n.Addrs), span.Of(n.Routes)))
}

// those are the addresses of a list for which holds says so.
func those(l []api.Addr, holds func(a api.Addr) bool) []api.Range {
	var out []api.Addr
	for _, a := range l {
		if holds(a) {
			out = append(out, a)
		}
	}
	return span.Join(span.Singles(out))
}

// A person is a user of nodes, with the addresses of these, and those of them that the ground has.
type person struct {
	addrs  []api.Addr
	ground []api.Range
}

// A maker makes the rows for a node of a scene that is right.
type maker struct {
	scene     api.Scene
	facts     map[api.Fact]bool
	addresses func(w api.What) []api.Range // of a what
	reached   func(w api.What) []api.Range // what these and the ground have in common
	people    []person                     // by their users
	rows      []api.Filter
}

func newMaker(s api.Scene, n api.Node) *maker {
	m := &maker{scene: s, facts: map[api.Fact]bool{}}
	for _, f := range s.Facts {
		m.facts[f] = true
	}
	ground := groundOf(n)
	m.addresses = whats.Addresses(s)
	m.reached = whats.Once(func(w api.What) []api.Range {
		return span.Combine(m.addresses(w), ground, func(inWhat, inGround bool) bool { return inWhat && inGround })
	})
	m.people = peopleOf(s.Nodes, ground)
	return m
}

// peopleOf are the users of nodes.
func peopleOf(nodes []api.Node, ground []api.Range) []person {
	addrs := map[string][]api.Addr{}
	for _, n := range nodes {
		if n.User != "" {
			addrs[n.User] = append(addrs[n.User], n.Addrs...)
		}
	}
	var out []person
	for _, user := range slices.Sorted(maps.Keys(addrs)) {
		l := addrs[user]
		out = append(out, person{addrs: l, ground: those(l, func(a api.Addr) bool { return span.Has(ground, a) })})
	}
	return out
}

// sources are the source addresses of a grant.
func (m *maker) sources(g api.Grant) []api.Range {
	var all []api.Range
	for _, w := range g.Src {
		all = append(all, m.addresses(w)...)
	}
	named := span.Join(all)
	if len(g.Postures) == 0 {
		return named
	}
	return those(m.meeting(g.Postures), func(a api.Addr) bool { return span.Has(named, a) })
}

// meeting are the addresses of the nodes that meet one of some postures.
func (m *maker) meeting(postures []string) []api.Addr {
	var out []api.Addr
	for _, n := range m.scene.Nodes {
		if slices.ContainsFunc(postures, func(p string) bool { return m.facts[api.Fact{Node: n.Key, Posture: p}] }) {
			out = append(out, n.Addrs...)
		}
	}
	return out
}

// addGrant adds the rows of a grant.
func (m *maker) addGrant(g api.Grant) api.Errno {
	src := m.sources(g)
	for _, t := range g.Dst {
		r := &row{proto: g.Proto, src: src, dst: m.reached(t.What), ports: []api.Ports{t.Ports}}
		add := m.add
		if t.What.Kind == api.WhatSelf {
			add = m.addSelf
		}
		if e := add(r); e != api.OK {
			return e
		}
	}
	return api.OK
}

// addSelf adds the rows of a target that is WhatSelf: for each user a row within its addresses.
func (m *maker) addSelf(r *row) api.Errno {
	for _, p := range m.people {
		src := those(p.addrs, func(a api.Addr) bool { return span.Has(r.src, a) })
		if e := m.add(&row{proto: r.proto, src: src, dst: p.ground, ports: r.ports}); e != api.OK {
			return e
		}
	}
	return api.OK
}

// add adds a row, if it has sources and targets.
func (m *maker) add(r *row) api.Errno {
	f, e := r.filter()
	if e != api.OK || len(f.Src) == 0 || len(f.Dst) == 0 {
		return e
	}
	m.rows = append(m.rows, f)
	if len(m.rows) > api.MaxFilters {
		return api.ErrLarge
	}
	return api.OK
}

// Rows are the rows for a node of a scene.
func Rows(s api.Scene, node string) ([]api.Filter, api.Errno) {
	if e := rule.Check(s); e != api.OK {
		return nil, e
	}
	i := slices.IndexFunc(s.Nodes, func(n api.Node) bool { return n.Key == node })
	if i < 0 {
		return nil, api.ErrNone
	}
	m := newMaker(s, s.Nodes[i])
	for _, g := range s.Policy.Grants {
		if e := m.addGrant(g); e != api.OK {
			return nil, e
		}
	}
	return m.rows, api.OK
}

// Compile are the rows for a node, squeezed.
func Compile(s api.Scene, node string) ([]api.Filter, api.Errno) {
	l, e := Rows(s, node)
	if e != api.OK {
		return nil, e
	}
	return Squeeze(l)
}
