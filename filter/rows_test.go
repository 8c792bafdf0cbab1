package filter_test

import (
	"fmt"
	"slices"
	"strings"
	"testing"

	"holloway/addr"
	"holloway/api"
	"holloway/filter"
	"holloway/rule"
)

// P4.2
func TestGround(t *testing.T) {
	for _, c := range []struct{ node, want string }{
		{"a ann", ""},
		{"a ann 10.0.0.1", "10.0.0.1/32"},
		{"a ann fd00::5 10.0.0.3 10.0.0.2", "10.0.0.2/31 fd00::5/128"},
		{"a #web 10.0.0.1 10.1.0.0/16 10.0.0.0/8", "10.0.0.0/8"},
		{"a #web 10.128.0.0/9 10.0.0.0/9 9.0.0.1 fd00::/8 10.0.0.0/16", "9.0.0.1/32 10.0.0.0/8 fd00::/8"},
		{"a ann 0.0.0.0/0 ::/0", "0.0.0.0/0 ::/0"},
	} {
		is(t, c.node, all(filter.Ground(nodes(c.node)[0])), all(nets(c.want), api.OK))
	}
	full := nodes("a ann 10.0.0.1 10.0.0.3 10.0.0.5 10.0.0.7")[0]
	full.Routes = repeat(api.MaxRoutes, func(i int) api.Prefix { return net(fmt.Sprint("11.", 2*i, ".0.0/16")) })
	l, e := filter.Ground(full)
	is(t, "full", all(len(l), e), all(api.MaxAddrs+api.MaxRoutes, api.OK))
}

// P4.2: the error of a node by itself.
func TestGroundOfWrongNodes(t *testing.T) {
	for _, c := range []struct {
		name string
		do   func(n *api.Node)
		e    api.Errno
	}{
		{"Key", func(n *api.Node) { n.Key = "A" }, api.ErrName},
		{"Name", func(n *api.Node) { n.Name = "" }, api.ErrName},
		{"User", func(n *api.Node) { n.User = "A" }, api.ErrName},
		{"neither a user nor tags", func(n *api.Node) { n.User = "" }, api.ErrForm},
		{"many tags", func(n *api.Node) { n.Tags = make([]string, api.MaxTags+1) }, api.ErrLarge},
		{"many addresses", func(n *api.Node) { n.Addrs = make([]api.Addr, api.MaxAddrs+1) }, api.ErrLarge},
		{"an address", func(n *api.Node) { n.Addrs = []api.Addr{{Hi: 1}} }, api.ErrForm},
		{"an address again", func(n *api.Node) { n.Addrs = make([]api.Addr, 2) }, api.ErrTwice},
		{"many routes", func(n *api.Node) { n.Routes = make([]api.Prefix, api.MaxRoutes+1) }, api.ErrLarge},
		{"a route", func(n *api.Node) { n.Routes = []api.Prefix{{Bits: 33}} }, api.ErrArg},
		{"a route again", func(n *api.Node) { n.Routes = make([]api.Prefix, 2) }, api.ErrTwice},
	} {
		n := nodes("a ann 10.0.0.1 10.1.0.0/16")[0]
		c.do(&n)
		is(t, c.name, all(filter.Ground(n)), all([]api.Prefix{}, c.e))
	}
}

// people are nodes of users, and with tags; d has no address, e and x have both lengths, r has routes.
const people = "a ann 100.64.0.1; b bob 100.64.0.2; c ann 100.64.0.3; d dan; e eve 100.64.0.5 fd00::5; r bob 100.64.0.7 10.0.0.0/8 100.64.0.0/30; w #web 100.64.0.9; x #db,web 100.64.0.10 fd00::10"

// P4.2
func TestRows(t *testing.T) {
	for _, c := range []struct{ policy, facts, node, want string }{
		{"", "", "a", ""},
		{"allow * -> *", "", "a", "any 0.0.0.0/0,::/0 100.64.0.1/32 0-65535"},
		{"allow * -> *", "", "x", "any 0.0.0.0/0,::/0 100.64.0.10/32,fd00::10/128 0-65535"},
		{"allow * -> *", "", "d", ""},
		{"allow * -> *;7 proto 17", "", "r", "17 0.0.0.0/0,::/0 10.0.0.0/8,100.64.0.0/30,100.64.0.7/32 7"},
		{"allow user:ann -> tag:web;443 proto 6", "", "w", "6 100.64.0.1/32,100.64.0.3/32 100.64.0.9/32 443"},
		{"allow user:ann -> tag:web;443 proto 6", "", "a", ""},
		{"allow user:ann,user:bob,user:eve -> tag:web;443,tag:db;5-6,tag:web;1", "", "x", "any 100.64.0.1/32,100.64.0.2/31,100.64.0.5/32,100.64.0.7/32,fd00::5/128 100.64.0.10/32,fd00::10/128 443; any 100.64.0.1/32,100.64.0.2/31,100.64.0.5/32,100.64.0.7/32,fd00::5/128 100.64.0.10/32,fd00::10/128 5-6; any 100.64.0.1/32,100.64.0.2/31,100.64.0.5/32,100.64.0.7/32,fd00::5/128 100.64.0.10/32,fd00::10/128 1"},
		// The grants in order; rows without sources or targets are left out.
		{"allow user:bob -> node:w; allow user:zed -> node:w; allow user:dan -> node:w; allow user:ann -> node:w proto 1; allow user:bob -> node:w", "", "w", "any 100.64.0.2/32,100.64.0.7/32 100.64.0.9/32 0-65535; 1 100.64.0.1/32,100.64.0.3/32 100.64.0.9/32 0-65535; any 100.64.0.2/32,100.64.0.7/32 100.64.0.9/32 0-65535"},
		// Routes belong to the ground.
		{"group g ann @h; group h eve; host net 10.1.0.0/16; allow group:g -> host:net;80,net:10.2.0.0/15;81,user:ann;82,net:11.0.0.0/8;83", "", "r", "any 100.64.0.1/32,100.64.0.3/32,100.64.0.5/32,fd00::5/128 10.1.0.0/16 80; any 100.64.0.1/32,100.64.0.3/32,100.64.0.5/32,fd00::5/128 10.2.0.0/15 81; any 100.64.0.1/32,100.64.0.3/32,100.64.0.5/32,fd00::5/128 100.64.0.1/32,100.64.0.3/32 82"},
		{"allow tagged -> member", "", "r", "any 100.64.0.9/32,100.64.0.10/32,fd00::10/128 100.64.0.1/32,100.64.0.2/31,100.64.0.7/32 0-65535"},
		// With postures only the nodes that meet one of them.
		{"allow * -> node:w if p", "", "w", ""},
		{"allow * -> node:w if p,q", "a/q d/p e/o x/p", "w", "any 100.64.0.1/32,100.64.0.10/32,fd00::10/128 100.64.0.9/32 0-65535"},
		{"allow net:100.64.0.0/29 -> node:w if p", "a/p b/q c/p x/p", "w", "any 100.64.0.1/32,100.64.0.3/32 100.64.0.9/32 0-65535"},
		{"allow member -> node:w;1 if p; allow member -> node:w;2", "e/p", "w", "any 100.64.0.5/32,fd00::5/128 100.64.0.9/32 1; any 100.64.0.1/32,100.64.0.2/31,100.64.0.5/32,100.64.0.7/32,fd00::5/128 100.64.0.9/32 2"},
		// WhatSelf: for each user a row.
		{"allow * -> self;22 proto 6", "", "a", "6 100.64.0.1/32,100.64.0.3/32 100.64.0.1/32 22"},
		{"allow * -> self", "", "w", ""},
		{"allow * -> self", "", "d", ""},
		{"allow * -> self;7", "", "r", "any 100.64.0.1/32,100.64.0.3/32 100.64.0.1/32,100.64.0.3/32 7; any 100.64.0.2/32,100.64.0.7/32 100.64.0.2/32,100.64.0.7/32 7"},
		{"allow node:c,user:bob -> self;7,node:r;8,self;9", "", "r", "any 100.64.0.3/32 100.64.0.1/32,100.64.0.3/32 7; any 100.64.0.2/32,100.64.0.7/32 100.64.0.2/32,100.64.0.7/32 7; any 100.64.0.2/31,100.64.0.7/32 100.64.0.7/32 8; any 100.64.0.3/32 100.64.0.1/32,100.64.0.3/32 9; any 100.64.0.2/32,100.64.0.7/32 100.64.0.2/32,100.64.0.7/32 9"},
		{"allow user:eve,tagged -> self", "", "r", ""},
		{"allow * -> self if p", "b/q c/p w/p", "a", "any 100.64.0.3/32 100.64.0.1/32 0-65535"},
		{"allow net:100.64.0.0/31 -> self", "", "c", "any 100.64.0.1/32 100.64.0.3/32 0-65535"},
	} {
		l, e := filter.Rows(scene(people, c.policy, c.facts), c.node)
		is(t, c.policy+" for "+c.node, all(shownRows(l), e), all(lines(c.want), api.OK))
	}
}

// P4.2, Z4
func TestWrongScenes(t *testing.T) {
	good := scene(people, "allow * -> *", "")
	noNode := scene(people, "allow * -> *", "")
	noNode.Nodes[3].Key = "A"
	noPolicy := scene(people, "allow * -> *", "")
	noPolicy.Policy.Grants[0].Proto = 256
	noFact := scene(people, "allow * -> *", "zed/p")
	large := scene(people, strings.Repeat("allow * -> *,*,*,*; ", 99)+"allow * -> *", "")
	for _, c := range []struct {
		name string
		s    api.Scene
		node string
		e    api.Errno
	}{
		{"no nodes", api.Scene{}, "a", api.ErrNone}, {"no key", good, "", api.ErrNone}, {"other key", good, "zed", api.ErrNone}, {"a user", good, "ann", api.ErrNone},
		{"a node", noNode, "zed", api.ErrName}, {"a policy", noPolicy, "zed", api.ErrArg}, {"a fact", noFact, "zed", api.ErrNone}, {"a fact, of a node", noFact, "a", api.ErrNone},
		{"many rows, no key", large, "zed", api.ErrNone}, {"many rows", large, "a", api.ErrLarge}, {"many rows, but none for this node", large, "d", api.OK},
	} {
		is(t, "Rows: "+c.name, all(filter.Rows(c.s, c.node)), all([]api.Filter{}, c.e))
		is(t, "Compile: "+c.name, all(filter.Compile(c.s, c.node)), all([]api.Filter{}, c.e))
	}
}

// P4.2: MaxFilters rows, and one more; rows that are left out do not count.
func TestManyRows(t *testing.T) {
	grants := strings.TrimSuffix(strings.Repeat("allow * -> node:a,user:zed,node:a,node:b,node:a; ", 100), "; ")
	s := scene(people, grants, "")
	l, e := filter.Rows(s, "a")
	is(t, "full", all(len(l), e), all(api.MaxFilters, api.OK))
	s.Policy.Grants[50].Dst = append(s.Policy.Grants[50].Dst, s.Policy.Grants[0].Dst[0])
	is(t, "one more", all(filter.Rows(s, "a")), all([]api.Filter{}, api.ErrLarge))
	is(t, "one more, squeezed", all(filter.Compile(s, "a")), all([]api.Filter{}, api.ErrLarge))
	s.Policy.Grants = s.Policy.Grants[1:]
	l, e = filter.Compile(s, "a")
	is(t, "squeezed", all(shownRows(l), e), all(lines("any 0.0.0.0/0,::/0 100.64.0.1/32 0-65535"), api.OK))
}

// crowd are nodes with so many addresses in all, no two of which make one prefix; the first node leads to everything.
func crowd(addrs int, user func(i int) string) api.Scene {
	var s api.Scene
	for i := 0; addrs > 0; i++ {
		n := api.Node{Key: key(i), Name: key(i), User: user(i)}
		for k := range min(addrs, api.MaxAddrs) {
			n.Addrs = append(n.Addrs, api.Addr{Lo: uint64(8*i + 2*k)})
		}
		addrs -= len(n.Addrs)
		s.Nodes = append(s.Nodes, n)
	}
	s.Nodes[0].Routes = nets("0.0.0.0/0")
	return s
}

func grant(src, dst int) api.Grant {
	return api.Grant{Src: []api.What{{Kind: src}}, Dst: []api.Target{{What: api.What{Kind: dst}, Ports: allPorts[0]}}}
}

// P4.2: sets of MaxSet prefixes, and of more, also of rows that are left out.
func TestLargeSets(t *testing.T) {
	one := func(int) string { return "ann" }
	two := func(i int) string { return words("ann bob")[i%2] }
	for _, c := range []struct {
		name  string
		addrs int
		user  func(i int) string
		g     api.Grant
		node  int
		rows  int
		e     api.Errno
	}{
		{"sources", api.MaxSet, one, grant(api.WhatMember, api.WhatAll), 7, 1, api.OK},
		{"one more source", api.MaxSet + 1, one, grant(api.WhatMember, api.WhatAll), 7, 0, api.ErrLarge},
		{"one more source, no target", api.MaxSet + 1, one, grant(api.WhatMember, api.WhatTagged), 7, 0, api.ErrLarge},
		{"targets", api.MaxSet, one, grant(api.WhatAll, api.WhatMember), 0, 1, api.OK},
		{"one more target", api.MaxSet + 1, one, grant(api.WhatAll, api.WhatMember), 0, 0, api.ErrLarge},
		{"one more target, no source", api.MaxSet + 1, one, grant(api.WhatTagged, api.WhatMember), 0, 0, api.ErrLarge},
		{"one more target, but not in the ground", api.MaxSet + 1, one, grant(api.WhatAll, api.WhatMember), 7, 1, api.OK},
		{"own nodes", api.MaxSet, one, grant(api.WhatAll, api.WhatSelf), 0, 1, api.OK},
		{"one more own node", api.MaxSet + 1, one, grant(api.WhatAll, api.WhatSelf), 7, 0, api.ErrLarge},
		{"own nodes of two", api.MaxSet + 1, two, grant(api.WhatMember, api.WhatSelf), 0, 2, api.OK},
		{"own nodes of two, one is reached", api.MaxSet + 1, two, grant(api.WhatMember, api.WhatSelf), 7, 1, api.OK},
		{"one more own node of two", 2*api.MaxSet + 1 - api.MaxAddrs, two, grant(api.WhatMember, api.WhatSelf), 7, 1, api.OK},
	} {
		s := crowd(c.addrs, c.user)
		s.Policy.Grants = []api.Grant{c.g}
		l, e := filter.Rows(s, key(c.node))
		is(t, c.name, all(len(l), e), all(c.rows, c.e))
	}
}

// union and both are those of sets that are right and not too long.
func union(a, b []api.Prefix) []api.Prefix {
	l, _ := addr.Union(a, b)
	return l
}

func both(a, b []api.Prefix) []api.Prefix {
	l, _ := addr.Both(a, b)
	return l
}

// addrsOf are the addresses of the nodes that fit.
func addrsOf(s api.Scene, fits func(n api.Node) bool) []api.Prefix {
	var out []api.Prefix
	for _, n := range s.Nodes {
		for _, a := range n.Addrs {
			p, _ := addr.Mask(a, map[bool]int{false: 32, true: 128}[a.Six])
			if fits(n) {
				out = union(out, []api.Prefix{p})
			}
		}
	}
	return out
}

// rowsFor are the rows for a node, as the document tells them.
func rowsFor(s api.Scene, n api.Node) []api.Filter {
	ground, _ := filter.Ground(n)
	var out []api.Filter
	add := func(proto int, src, dst []api.Prefix, p api.Ports) {
		if len(src) > 0 && len(dst) > 0 {
			out = append(out, api.Filter{Proto: proto, Src: src, Dst: dst, Ports: []api.Ports{p}})
		}
	}
	for _, g := range s.Policy.Grants {
		var src []api.Prefix
		for _, w := range g.Src {
			l, _ := rule.Addresses(s, w)
			src = union(src, l)
		}
		if len(g.Postures) > 0 {
			src = both(src, addrsOf(s, func(n api.Node) bool {
				return slices.ContainsFunc(s.Facts, func(f api.Fact) bool { return f.Node == n.Key && slices.Contains(g.Postures, f.Posture) })
			}))
		}
		for _, t := range g.Dst {
			if t.What.Kind != api.WhatSelf {
				l, _ := rule.Addresses(s, t.What)
				add(g.Proto, src, both(l, ground), t.Ports)
				continue
			}
			for _, user := range words("ann bob cid") {
				own := addrsOf(s, func(n api.Node) bool { return n.User == user })
				add(g.Proto, both(src, own), both(own, ground), t.Ports)
			}
		}
	}
	return out
}

// P4.2: random scenes are held against a second telling.
func TestRowsOfMany(t *testing.T) {
	r := newChance(3)
	some := 0
	for range 1_000 {
		s := r.scene()
		n := pick(r, s.Nodes)
		l, e := filter.Rows(s, n.Key)
		is(t, fmt.Sprintf("%+v for %s", s, n.Key), all(l, e), all(rowsFor(s, n), api.OK))
		some += len(l)
	}
	if some < 1_000 {
		t.Errorf("%d rows", some)
	}
}

func first(x bool, _ api.Errno) bool { return x }

// P4.3: for each flow whose To is in the ground of a node, Rows and Compile decide as the policy.
func TestCompileDecidesAsThePolicy(t *testing.T) {
	r := newChance(4)
	each := flows()
	count := map[bool]int{}
	for range 300 {
		s := r.scene()
		n := pick(r, s.Nodes)
		ground, _ := filter.Ground(n)
		l, e := filter.Compile(s, n.Key)
		is(t, "Compile", e, api.OK)
		made, _ := filter.Rows(s, n.Key)
		name := fmt.Sprintf("%+v for %s", s, n.Key)
		for range 200 {
			f := pick(r, each)
			if in, _ := addr.Has(ground, f.To); !in {
				continue
			}
			want, _ := rule.Permits(s, f)
			is(t, name, all(f, l, first(filter.Decides(l, f))), all(f, l, want))
			is(t, name, all(f, made, first(filter.Decides(made, f))), all(f, made, want))
			count[want]++
		}
	}
	if count[true] < 1_000 || count[false] < 1_000 {
		t.Errorf("decided: %v", count)
	}
}
