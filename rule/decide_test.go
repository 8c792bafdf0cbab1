package rule_test

import (
	"fmt"
	"math/rand"
	"slices"
	"testing"

	"holloway/addr"
	"holloway/api"
	"holloway/rule"
)

// P3.3
func TestAddresses(t *testing.T) {
	s := scene(people, "group g bob @h zed; group h ann; group i; host n 10.0.0.0/8; host o ::/0", "a/p")
	for i := range s.Nodes {
		s.Nodes[i].Routes = nets("10.1.0.0/16")
	}
	for _, c := range []struct {
		w    api.What
		want string
	}{
		{what(api.WhatAll, ""), "0.0.0.0/0 ::/0"},
		{what(api.WhatUser, "ann"), "100.64.0.1/32 100.64.0.3/32"},
		{what(api.WhatUser, "eve"), "100.64.0.5/32 fd00::5/128"},
		{what(api.WhatUser, "dan"), ""},
		{what(api.WhatUser, "zed"), ""},
		{what(api.WhatUser, "web"), ""},
		{what(api.WhatUser, "a"), ""},
		{what(api.WhatGroup, "g"), "100.64.0.1/32 100.64.0.2/31"},
		{what(api.WhatGroup, "h"), "100.64.0.1/32 100.64.0.3/32"},
		{what(api.WhatGroup, "i"), ""},
		{what(api.WhatTag, "web"), "100.64.0.9/32 100.64.0.10/32 fd00::10/128"},
		{what(api.WhatTag, "db"), "100.64.0.10/32 fd00::10/128"},
		{what(api.WhatTag, "ann"), ""},
		{what(api.WhatNode, "x"), "100.64.0.10/32 fd00::10/128"},
		{what(api.WhatNode, "d"), ""},
		{what(api.WhatNode, "zed"), ""},
		{what(api.WhatNode, "ann"), ""},
		{what(api.WhatHost, "n"), "10.0.0.0/8"},
		{what(api.WhatHost, "o"), "::/0"},
		{api.What{Kind: api.WhatNet, Net: net("10.2.0.0/16")}, "10.2.0.0/16"},
		{api.What{Kind: api.WhatNet}, "0.0.0.0/0"},
		{api.What{Kind: api.WhatNet, Net: net("::/0")}, "::/0"},
		{what(api.WhatMember, ""), "100.64.0.1/32 100.64.0.2/31 100.64.0.5/32 fd00::5/128"},
		{what(api.WhatTagged, ""), "100.64.0.9/32 100.64.0.10/32 fd00::10/128"},
		{what(api.WhatSelf, ""), ""},
	} {
		is(t, fmt.Sprint("Addresses ", c.w), all(rule.Addresses(s, c.w)), all(nets(c.want), api.OK))
	}
	for _, w := range []api.What{{}, what(api.WhatGroup, "zed"), what(api.WhatHost, "g"), what(api.WhatUser, ""), what(api.WhatAll, "a"), {Kind: api.WhatNet, Net: api.Prefix{Bits: 33}}} {
		l, e := rule.Addresses(s, w)
		is(t, fmt.Sprint("Addresses ", w), all(len(l), e == api.OK), all(0, false))
	}
}

// P3.3
func TestOwner(t *testing.T) {
	s := scene(people, "", "")
	for _, n := range s.Nodes {
		for _, a := range n.Addrs {
			is(t, "Owner", all(rule.Owner(s, a)), all(n.Key, true, api.OK))
			a.Six = !a.Six
			if addr.CheckAddr(a) == api.OK {
				is(t, "Owner", all(rule.Owner(s, a)), all("", false, api.OK))
			}
		}
	}
	for _, a := range addrs("0.0.0.0 100.64.0.4 :: fd00::9") {
		is(t, "Owner", all(rule.Owner(s, a)), all("", false, api.OK))
	}
	for _, a := range []api.Addr{{Hi: 1}, {Lo: 1 << 32}} {
		is(t, "Owner", all(rule.Owner(s, a)), all("", false, api.ErrForm))
	}
}

// P3.4: what each part of a grant does.
func TestPermits(t *testing.T) {
	s := scene(people, "allow user:ann -> tag:web;443 proto 6", "")
	for _, c := range []struct {
		text string
		f    api.Flow
		want bool
	}{
		{"allow user:ann -> tag:web;443 proto 6", flow(6, "100.64.0.1", "100.64.0.9", 443), true},
		{"allow user:ann -> tag:web;443 proto 6", flow(6, "100.64.0.3", "100.64.0.10", 443), true},
		{"allow user:ann -> tag:web;443 proto 6", flow(6, "100.64.0.1", "100.64.0.9", 442), false},
		{"allow user:ann -> tag:web;443 proto 6", flow(6, "100.64.0.1", "100.64.0.9", 444), false},
		{"allow user:ann -> tag:web;443 proto 6", flow(17, "100.64.0.1", "100.64.0.9", 443), false},
		{"allow user:ann -> tag:web;443 proto 6", flow(6, "100.64.0.2", "100.64.0.9", 443), false},
		{"allow user:ann -> tag:web;443 proto 6", flow(6, "100.64.0.9", "100.64.0.1", 443), false},
		{"allow user:ann -> tag:web;443 proto 6", flow(6, "100.64.0.1", "100.64.0.2", 443), false},
		{"allow user:ann -> *;80-90", flow(17, "100.64.0.1", "8.8.8.8", 79), false},
		{"allow user:ann -> *;80-90", flow(17, "100.64.0.1", "8.8.8.8", 80), true},
		{"allow user:ann -> *;80-90", flow(6, "100.64.0.1", "8.8.8.8", 90), true},
		{"allow user:ann -> *;80-90", flow(6, "100.64.0.1", "8.8.8.8", 91), false},
		{"allow * -> *;80", flow(1, "1.1.1.1", "8.8.8.8", 0), false},
		{"allow * -> *;0", flow(1, "1.1.1.1", "8.8.8.8", 0), true},
		{"allow * -> *", flow(255, "::1", "::2", 0), true},
		{"allow * -> * proto 1", flow(1, "::1", "::2", 0), true},
		{"allow * -> * proto 1", flow(2, "::1", "::2", 0), false},
		{"allow net:0.0.0.0/0 -> net:::/0", flow(6, "1.1.1.1", "8.8.8.8", 1), false},
		{"allow net:0.0.0.0/0 -> net:::/0", flow(6, "::1", "::2", 1), false},
		{"allow user:zed,user:bob -> node:zed;1,node:a;2", flow(6, "100.64.0.2", "100.64.0.1", 2), true},
		{"allow user:zed,user:bob -> node:zed;1,node:a;2", flow(6, "100.64.0.2", "100.64.0.1", 1), false},
		{"allow node:a -> tag:web;1,tag:db;2", flow(6, "100.64.0.1", "100.64.0.10", 2), true},
		{"allow node:a -> tag:web;1,tag:db;2", flow(6, "100.64.0.1", "100.64.0.9", 2), false},
		{"allow member -> tagged", flow(6, "100.64.0.2", "100.64.0.9", 2), true},
		{"allow member -> tagged", flow(6, "100.64.0.9", "100.64.0.10", 2), false},
		{"allow user:bob -> *;1; allow user:ann -> *;2", flow(6, "100.64.0.1", "8.8.8.8", 1), false},
		{"allow user:bob -> *;1; allow user:ann -> *;2", flow(6, "100.64.0.1", "8.8.8.8", 2), true},
		{"", flow(6, "100.64.0.1", "100.64.0.9", 443), false},
	} {
		s.Policy = policy(c.text)
		for _, port := range []int{0, 443, api.MaxPort} {
			if c.f.Proto == 6 || c.f.Proto == 17 {
				c.f.FromPort = port
			}
			is(t, fmt.Sprint(c.text, c.f), all(rule.Permits(s, c.f)), all(c.want, api.OK))
		}
	}
}

// P3.4: self leads to nodes of the same user; nodes with tags, and addresses without a node, have none.
func TestSelf(t *testing.T) {
	s := scene(people, "allow * -> self;22", "")
	for _, c := range []struct {
		from, to string
		want     bool
	}{
		{"100.64.0.1", "100.64.0.3", true}, {"100.64.0.3", "100.64.0.1", true}, {"100.64.0.1", "100.64.0.1", true}, {"fd00::5", "fd00::5", true},
		{"100.64.0.1", "100.64.0.2", false}, {"100.64.0.1", "100.64.0.9", false}, {"100.64.0.9", "100.64.0.9", false}, {"100.64.0.9", "100.64.0.10", false}, {"fd00::10", "fd00::10", false},
		{"100.64.0.1", "8.8.8.8", false}, {"8.8.8.8", "100.64.0.1", false}, {"8.8.8.8", "8.8.8.8", false}, {"8.8.8.8", "100.64.0.9", false}, {"fd00::5", "fd00::10", false},
	} {
		is(t, "self "+c.from+" "+c.to, all(rule.Permits(s, flow(6, c.from, c.to, 22))), all(c.want, api.OK))
		is(t, "self "+c.from+" "+c.to, all(rule.Permits(s, flow(6, c.from, c.to, 23))), all(false, api.OK))
	}
	s.Policy = policy("allow node:a -> self")
	is(t, "a source", all(rule.Permits(s, flow(6, "100.64.0.1", "100.64.0.3", 1))), all(true, api.OK))
	is(t, "no source", all(rule.Permits(s, flow(6, "100.64.0.3", "100.64.0.1", 1))), all(false, api.OK))
}

// P3.4: one of the postures is enough, and it is the node that has From that meets it.
func TestPostures(t *testing.T) {
	s := scene(people, "allow * -> * if p,q; allow * -> *;7 if r", "a/p b/q c/s w/q")
	for _, c := range []struct {
		from string
		want bool
	}{{"100.64.0.1", true}, {"100.64.0.2", true}, {"100.64.0.9", true}, {"100.64.0.3", false}, {"100.64.0.5", false}, {"8.8.8.8", false}} {
		is(t, "from "+c.from, all(rule.Permits(s, flow(6, c.from, "100.64.0.1", 7))), all(c.want, api.OK))
		is(t, "from "+c.from, all(rule.Permits(s, flow(1, c.from, "100.64.0.3", 0))), all(c.want, api.OK))
	}
	f := flow(6, "100.64.0.1", "100.64.0.3", 7)
	is(t, "Sources", all(rule.Sources(s, f)), all(nets("100.64.0.1/32 100.64.0.2/32 100.64.0.9/32"), api.OK))
	is(t, "Targets", all(rule.Targets(s, f)), all(nets("0.0.0.0/0"), api.OK))
	s.Policy = policy("allow user:bob,net:100.64.0.8/30 -> * if q")
	is(t, "Sources", all(rule.Sources(s, f)), all(nets("100.64.0.2/32 100.64.0.9/32"), api.OK))
}

// P3.4
func TestWhySourcesTargetsOpen(t *testing.T) {
	s := scene(people, "group g ann bob; allow group:g -> tag:web;443 proto 6; allow node:a -> node:w; allow net:100.64.0.0/30 -> net:100.64.0.8/29;80-90,*;91-99; allow tag:db -> *; allow member -> self;22; allow * -> node:x proto 1; allow node:e -> *;7", "")
	f := flow(6, "100.64.0.1", "100.64.0.9", 443)
	is(t, "Why", all(rule.Why(s, f)), all([]int{0, 1}, api.OK))
	is(t, "Sources", all(rule.Sources(s, f)), all(nets("100.64.0.1/32 100.64.0.2/31 100.64.0.10/32"), api.OK))
	is(t, "Targets", all(rule.Targets(s, f)), all(nets("100.64.0.9/32 100.64.0.10/32"), api.OK))
	is(t, "Open", all(rule.Open(s, f)), all([]api.Ports{{To: api.MaxPort}}, api.OK))
	f.To = ip("100.64.0.10")
	is(t, "Open", all(rule.Open(s, f)), all([]api.Ports{{From: 80, To: 99}, {From: 443, To: 443}}, api.OK))
	f.To = ip("100.64.0.3")
	is(t, "Open", all(rule.Open(s, f)), all([]api.Ports{{From: 22, To: 22}, {From: 91, To: 99}}, api.OK))
	f.ToPort = 22
	is(t, "Sources of self", all(rule.Sources(s, f)), all(nets("100.64.0.1/32 100.64.0.3/32 100.64.0.10/32"), api.OK))
	is(t, "Targets of self", all(rule.Targets(s, f)), all(nets("100.64.0.1/32 100.64.0.3/32 100.64.0.9/32"), api.OK))
	f = flow(1, "8.8.8.8", "100.64.0.10", 0)
	is(t, "Why", all(rule.Why(s, f)), all([]int{5}, api.OK))
	is(t, "Open without ports", all(rule.Open(s, f)), all([]api.Ports{{}}, api.OK))
	is(t, "Sources", all(rule.Sources(s, f)), all(nets("0.0.0.0/0"), api.OK))
	f = flow(2, "8.8.8.8", "100.64.0.10", 0)
	is(t, "nothing", all(rule.Open(s, f)), all([]api.Ports{}, api.OK))
	is(t, "nothing", all(rule.Why(s, f)), all([]int{}, api.OK))
	f = flow(17, "fd00::5", "::", 7)
	is(t, "Sources of 128 bits", all(rule.Sources(s, f)), all(nets("fd00::5/128 fd00::10/128"), api.OK))
	is(t, "Targets of 128 bits", all(rule.Targets(s, f)), all(nets("::/0"), api.OK))
	s.Policy = policy("allow node:a -> *;80-90; allow node:a -> *;0")
	is(t, "a protocol without ports", all(rule.Open(s, flow(1, "100.64.0.1", "8.8.8.8", 0))), all([]api.Ports{{}}, api.OK))
	is(t, "ranges", all(rule.Open(s, flow(17, "100.64.0.1", "8.8.8.8", 1))), all([]api.Ports{{}, {From: 80, To: 90}}, api.OK))
	s.Policy = policy("allow node:a -> *;80-90")
	is(t, "a protocol without ports", all(rule.Open(s, flow(1, "100.64.0.1", "8.8.8.8", 0))), all([]api.Ports{}, api.OK))
}

// P3.4: the sets can have more than MaxSet prefixes.
func TestLargeSets(t *testing.T) {
	s := api.Scene{Nodes: full(), Policy: policy("allow tagged,member -> *")}
	var want []api.Prefix
	for i := range s.Nodes {
		for k, a := range []uint64{1, 5} {
			s.Nodes[i].Addrs[k] = api.Addr{Lo: uint64(i)*8 + a}
			want = append(want, api.Prefix{Addr: s.Nodes[i].Addrs[k], Bits: 32})
		}
		s.Nodes[i].Addrs = s.Nodes[i].Addrs[:2]
		s.Nodes[i].User, s.Nodes[i].Tags = "ann", nil
	}
	s.Nodes[7].User, s.Nodes[7].Tags = "", words("web")
	is(t, "Sources", all(rule.Sources(s, flow(6, "8.8.8.8", "8.8.8.8", 1))), all(want, api.OK))
	s.Policy = policy("allow * -> tagged,member")
	is(t, "Targets", all(rule.Targets(s, flow(6, "8.8.8.8", "8.8.8.8", 1))), all(want, api.OK))
	l, e := rule.Addresses(s, what(api.WhatMember, ""))
	is(t, "Addresses", all(len(l), e), all(2*api.MaxNodes-2, api.OK))
}

// P3.4
func TestPeers(t *testing.T) {
	for _, c := range []struct{ text, node, want string }{
		{"allow user:ann -> tag:web;443 proto 6", "a", "w x"},
		{"allow user:ann -> tag:web;443 proto 6", "w", "a c"},
		{"allow user:ann -> tag:web;443 proto 6", "b", ""},
		{"allow user:ann -> tag:web proto 47", "a", "w x"},
		{"allow user:ann -> user:bob;0", "b", "a c"},
		{"allow user:ann -> user:bob;65535 proto 17", "b", "a c"},
		{"allow * -> self", "a", "c"},
		{"allow * -> self", "e", ""},
		{"allow * -> self", "w", ""},
		{"allow * -> *", "a", "b c e w x"},
		{"allow * -> *", "d", ""},
		{"allow net:fd00::/16 -> *", "e", "x"},
		{"allow net:fd00::/16 -> *", "a", ""},
		{"allow node:e -> node:a,node:x", "x", "e"},
		{"allow net:::/0 -> net:0.0.0.0/0", "x", ""},
		{"allow * -> node:a if p", "a", "b"},
		{"allow * -> node:a if p", "b", "a"},
		{"allow * -> node:a if p", "c", ""},
		{"", "a", ""},
	} {
		s := scene(people, c.text, "b/p c/q")
		is(t, "Peers "+c.text+" "+c.node, all(rule.Peers(s, c.node)), all(words(c.want), api.OK))
	}
	v6 := scene("a ann 10.0.0.1; b bob fd00::1; c cid 10.0.0.3 fd00::3", "allow * -> *", "")
	is(t, "two lengths", all(rule.Peers(v6, "a")), all(words("c"), api.OK))
	is(t, "two lengths", all(rule.Peers(v6, "b")), all(words("c"), api.OK))
	is(t, "two lengths", all(rule.Peers(v6, "c")), all(words("a b"), api.OK))
	for _, node := range append(notKeys, "zed", "ann", "web") {
		is(t, "Peers of "+node, all(rule.Peers(v6, node)), all([]string{}, api.ErrNone))
	}
}

// P3.4
func TestFailures(t *testing.T) {
	text := "allow user:ann -> *;80; "
	tests := "accept 6 100.64.0.1 8.8.8.8 1 80; deny 6 100.64.0.1 8.8.8.8 1 81; deny 6 100.64.0.1 8.8.8.8 1 80; accept 17 100.64.0.1 8.8.8.8 1 81; deny 1 100.64.0.1 8.8.8.8 0 0; accept 6 fd00::5 fd00::10 1 80"
	is(t, "Failures", all(rule.Failures(scene(people, text+tests, ""))), all([]int{2, 3, 5}, api.OK))
	is(t, "Failures", all(rule.Failures(scene(people, tests, ""))), all([]int{0, 3, 5}, api.OK))
	is(t, "no tests", all(rule.Failures(scene(people, "allow * -> *", ""))), all([]int{}, api.OK))
}

// P3.2, P3.4: the errors of a flow, of all functions with one.
func TestFlowsFirst(t *testing.T) {
	s := scene(people, "allow * -> *", "")
	for _, c := range []struct {
		f api.Flow
		e api.Errno
	}{
		{api.Flow{From: api.Addr{Hi: 1}}, api.ErrArg}, {api.Flow{Proto: 256}, api.ErrArg}, {api.Flow{Proto: 6, From: api.Addr{Hi: 1}, To: api.Addr{Six: true}}, api.ErrForm}, {api.Flow{Proto: 6, To: api.Addr{Lo: 1 << 32}}, api.ErrForm},
		{api.Flow{Proto: 6, To: api.Addr{Six: true}, ToPort: -1}, api.ErrType}, {api.Flow{Proto: 6, ToPort: 65_536}, api.ErrArg}, {api.Flow{Proto: 6, FromPort: -1}, api.ErrArg}, {api.Flow{Proto: 1, ToPort: 1}, api.ErrArg}, {api.Flow{Proto: 255, FromPort: 1}, api.ErrArg},
	} {
		for _, call := range calls {
			if call.flow {
				is(t, call.name, errnoOf(call.f(input{s: s, f: c.f})), c.e)
			}
		}
	}
}

// P3.3, P3.4: random scenes are held against the document's words.
func TestDecisions(t *testing.T) {
	r := chance{rand.New(rand.NewSource(4))}
	permitted := 0
	for range 300 {
		s := r.scene()
		o := oracle{s}
		is(t, "Check", rule.Check(s), api.OK)
		is(t, "Failures", all(rule.Failures(s)), all(o.failures(), api.OK))
		for _, n := range s.Nodes {
			is(t, "Peers", all(rule.Peers(s, n.Key)), all(o.peers(n), api.OK))
		}
		for range 5 {
			w := r.what()
			l, e := rule.Addresses(s, w)
			is(t, "Addresses", e, api.OK)
			holdsSet(t, fmt.Sprintf("%+v: %v", s, w), l, func(a api.Addr) bool { return o.isOf(w, a) })
		}
		for range 20 {
			f := r.flow()
			if o.permits(f) {
				permitted++
			}
			holdsFlow(t, s, f)
		}
	}
	if permitted < 400 {
		t.Errorf("%d are permitted", permitted)
	}
}

// holdsFlow holds what is said of a flow against an oracle.
func holdsFlow(t *testing.T, s api.Scene, f api.Flow) {
	t.Helper()
	o, name := oracle{s}, fmt.Sprintf("%+v: %+v", s, f)
	is(t, name, all(rule.Permits(s, f)), all(o.permits(f), api.OK))
	is(t, name, all(rule.Why(s, f)), all(o.why(f), api.OK))
	holdsEnds := func(l []api.Prefix, e api.Errno, with func(x *api.Flow, a api.Addr)) {
		is(t, name, e, api.OK)
		holdsSet(t, name, l, func(a api.Addr) bool {
			x := f
			with(&x, a)
			return a.Six == f.To.Six && o.permits(x)
		})
	}
	sources, e := rule.Sources(s, f)
	holdsEnds(sources, e, func(x *api.Flow, a api.Addr) { x.From = a })
	targets, e := rule.Targets(s, f)
	holdsEnds(targets, e, func(x *api.Flow, a api.Addr) { x.To = a })
	open, e := rule.Open(s, f)
	is(t, name, e, api.OK)
	for i, p := range open {
		if p.From > p.To || i > 0 && p.From <= open[i-1].To+1 {
			t.Errorf("%s: %v", name, open)
		}
	}
	for _, x := range flowsOf(f.Proto, f.From, f.To) {
		is(t, name, slices.ContainsFunc(open, func(p api.Ports) bool { return p.From <= x.ToPort && x.ToPort <= p.To }), o.permits(x))
	}
}

// holdsSet holds a set against what is in it.
func holdsSet(t *testing.T, name string, l []api.Prefix, isIn func(a api.Addr) bool) {
	t.Helper()
	is(t, name, addr.CheckSet(l), api.OK)
	for _, a := range eachAddr {
		is(t, name, slices.ContainsFunc(l, func(p api.Prefix) bool { return within(p, a) }), isIn(a))
	}
	for _, p := range l {
		last, _ := addr.Last(p)
		is(t, name, all(isIn(p.Addr), isIn(last)), all(true, true))
	}
}
