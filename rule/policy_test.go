package rule_test

import (
	"fmt"
	"math"
	"slices"
	"strings"
	"testing"

	"holloway/api"
	"holloway/rule"
)

// fullPolicy has as much as a policy can have.
func fullPolicy() api.Policy {
	var p api.Policy
	p.Groups = repeat(api.MaxGroups, func(i int) api.Group {
		g := api.Group{Name: key(i), Members: keys(api.MaxMembers)}
		if i > 0 {
			g.Members[7] = "@" + key(i-1)
		}
		return g
	})
	p.Hosts = repeat(api.MaxHosts, func(i int) api.Host { return api.Host{Name: key(i), Net: net("10.0.0.0/8")} })
	p.Grants = repeat(api.MaxRules, func(int) api.Grant {
		return api.Grant{
			Src:      repeat(api.MaxWhats, func(i int) api.What { return api.What{Kind: api.WhatGroup, Name: key(i)} }),
			Dst:      repeat(api.MaxWhats, func(i int) api.Target { return api.Target{What: api.What{Kind: api.WhatHost, Name: key(i)}} }),
			Postures: keys(api.MaxWhats),
		}
	})
	p.Tests = repeat(api.MaxTests, func(int) api.Test { return api.Test{Flow: flow(255, "::", "::1", 0)} })
	return p
}

// P3.2
func TestRightPolicies(t *testing.T) {
	for _, p := range []api.Policy{
		{}, fullPolicy(),
		policy("group a; group a- @a; group a0 @a- @a; group a_ user other"),
		policy("host a 0.0.0.0/0; host b ::/0; allow host:a,host:a -> host:b,host:b"),
		policy("allow * -> self; allow * -> *;0; allow * -> *;65535 proto 6; allow * -> *;0-65534 proto 17; allow * -> * proto 255 if a,a-,b"),
		policy("allow user:zed,tag:zed,node:zed -> user:zed,tag:zed,node:zed"),
		policy("group a ann @b; group b bob @c; group c @d; group d; group e @b @c @d"),
	} {
		is(t, "CheckPolicy", rule.CheckPolicy(p), api.OK)
		is(t, "Check", rule.Check(api.Scene{Policy: p}), api.OK)
	}
}

// base has two of each part, the second of which is to be broken.
func base() api.Policy {
	return policy("group b ann; group d bob; host b 10.0.0.0/8; host d 10.0.0.0/9; allow * -> *; allow group:d -> *,net:10.0.0.0/8;80-90 proto 6 if p,q; accept 6 10.0.0.1 10.0.0.2 3 4; deny 17 ::1 ::2 3 4")
}

func what(kind int, name string) api.What { return api.What{Kind: kind, Name: name} }

// policyBreaks make the second one of a part of base wrong, in the order in which it is told.
var policyBreaks = []struct {
	name string
	do   func(p *api.Policy)
	e    api.Errno
}{
	{"groups", func(p *api.Policy) { p.Groups = make([]api.Group, api.MaxGroups+1) }, api.ErrLarge},
	{"Name of a group", func(p *api.Policy) { p.Groups[1].Name = "@b" }, api.ErrName},
	{"no Name of a group", func(p *api.Policy) { p.Groups[1].Name = "" }, api.ErrName},
	{"a group falls", func(p *api.Policy) { p.Groups[1].Name = "a" }, api.ErrOrder},
	{"a group again", func(p *api.Policy) { p.Groups[1].Name = "b" }, api.ErrOrder},
	{"members", func(p *api.Policy) { p.Groups[1].Members = make([]string, api.MaxMembers+1) }, api.ErrLarge},
	{"a member", func(p *api.Policy) { p.Groups[1].Members = words("bob Ann bob") }, api.ErrName},
	{"a member is @", func(p *api.Policy) { p.Groups[1].Members = words("@") }, api.ErrName},
	{"a member is @@", func(p *api.Policy) { p.Groups[1].Members = words("@@b") }, api.ErrName},
	{"an empty member", func(p *api.Policy) { p.Groups[1].Members = []string{""} }, api.ErrName},
	{"a member again", func(p *api.Policy) { p.Groups[1].Members = words("bob ann bob Ann") }, api.ErrTwice},
	{"a group as a member again", func(p *api.Policy) { p.Groups[1].Members = words("@zed zed @zed") }, api.ErrTwice},
	{"a member is no group", func(p *api.Policy) { p.Groups[1].Members = words("@d @zed") }, api.ErrNone},
	{"a group in itself", func(p *api.Policy) { p.Groups[1].Members = words("bob @d") }, api.ErrLoop},
	{"hosts", func(p *api.Policy) { p.Hosts = make([]api.Host, api.MaxHosts+1) }, api.ErrLarge},
	{"Name of a host", func(p *api.Policy) { p.Hosts[1].Name = "D" }, api.ErrName},
	{"no Name of a host", func(p *api.Policy) { p.Hosts[1].Name = "" }, api.ErrName},
	{"a host falls", func(p *api.Policy) { p.Hosts[1].Name = "a" }, api.ErrOrder},
	{"a host again", func(p *api.Policy) { p.Hosts[1].Name = "b" }, api.ErrOrder},
	{"an address of Net", func(p *api.Policy) { p.Hosts[1].Net = api.Prefix{Addr: api.Addr{Hi: 1}, Bits: 33} }, api.ErrForm},
	{"bits of Net", func(p *api.Policy) { p.Hosts[1].Net = api.Prefix{Addr: api.Addr{Lo: 1}, Bits: 33} }, api.ErrArg},
	{"Net", func(p *api.Policy) { p.Hosts[1].Net = api.Prefix{Addr: api.Addr{Lo: 1}, Bits: 8} }, api.ErrForm},
	{"grants", func(p *api.Policy) { p.Grants = make([]api.Grant, api.MaxRules+1) }, api.ErrLarge},
	{"no Src", func(p *api.Policy) { p.Grants[1].Src = nil }, api.ErrForm},
	{"no Dst", func(p *api.Policy) { p.Grants[1].Dst = nil }, api.ErrForm},
	{"many Src", func(p *api.Policy) { p.Grants[1].Src = make([]api.What, api.MaxWhats+1) }, api.ErrLarge},
	{"many Dst", func(p *api.Policy) { p.Grants[1].Dst = make([]api.Target, api.MaxWhats+1) }, api.ErrLarge},
	{"a kind of Src", func(p *api.Policy) { p.Grants[1].Src = []api.What{what(api.WhatAll, ""), {}} }, api.ErrKind},
	{"Src is self", func(p *api.Policy) { p.Grants[1].Src = []api.What{what(api.WhatSelf, ""), what(api.WhatAll, "a")} }, api.ErrKind},
	{"Src is self, with a name", func(p *api.Policy) { p.Grants[1].Src = []api.What{what(api.WhatSelf, "a")} }, api.ErrForm},
	{"Src is no group", func(p *api.Policy) { p.Grants[1].Src = []api.What{what(api.WhatGroup, "zed")} }, api.ErrNone},
	{"Dst is no host", func(p *api.Policy) {
		p.Grants[1].Dst = []api.Target{{What: what(api.WhatHost, "zed"), Ports: api.Ports{From: 1}}}
	}, api.ErrNone},
	{"Ports", func(p *api.Policy) {
		p.Grants[1].Dst = []api.Target{{What: what(api.WhatSelf, "")}, {What: what(api.WhatAll, ""), Ports: api.Ports{From: 1}}, {}}
	}, api.ErrArg},
	{"a protocol", func(p *api.Policy) { p.Grants[1].Proto = api.MaxProto + 1 }, api.ErrArg},
	{"a protocol without ports", func(p *api.Policy) { p.Grants[1].Proto = api.ProtoIcmp }, api.ErrRule},
	{"a posture", func(p *api.Policy) { p.Grants[1].Postures = words("p Q a") }, api.ErrName},
	{"postures fall", func(p *api.Policy) { p.Grants[1].Postures = words("q p") }, api.ErrOrder},
	{"a posture again", func(p *api.Policy) { p.Grants[1].Postures = words("p p") }, api.ErrOrder},
	{"many postures, and a wrong one", func(p *api.Policy) { p.Grants[1].Postures = append(keys(api.MaxWhats+1), "A") }, api.ErrName},
	{"many postures", func(p *api.Policy) { p.Grants[1].Postures = keys(api.MaxWhats + 1) }, api.ErrLarge},
	{"tests", func(p *api.Policy) { p.Tests = make([]api.Test, api.MaxTests+1) }, api.ErrLarge},
	{"a protocol of a test", func(p *api.Policy) { p.Tests[1].Flow.Proto = 0 }, api.ErrArg},
	{"From", func(p *api.Policy) { p.Tests[1].Flow.From = api.Addr{Hi: 1} }, api.ErrForm},
	{"From and To", func(p *api.Policy) { p.Tests[1].Flow.From = ip("10.0.0.1") }, api.ErrType},
	{"ports of a test", func(p *api.Policy) { p.Tests[1].Flow.ToPort = api.MaxPort + 1 }, api.ErrArg},
	{"ports of ICMP", func(p *api.Policy) { p.Tests[1].Flow.Proto = api.ProtoIcmp }, api.ErrArg},
}

// P3.2, Z4: each error alone, and ahead of all that come behind it, also of nodes and facts.
func TestWrongPolicies(t *testing.T) {
	ahead := base()
	is(t, "base", rule.CheckPolicy(ahead), api.OK)
	for i := len(policyBreaks) - 1; i >= 0; i-- {
		b := policyBreaks[i]
		alone := base()
		b.do(&alone)
		is(t, b.name, rule.CheckPolicy(alone), b.e)
		b.do(&ahead)
		is(t, b.name+", ahead", rule.CheckPolicy(ahead), b.e)
		is(t, b.name+", ahead of nodes", rule.Check(api.Scene{Policy: ahead, Nodes: []api.Node{{}}, Facts: []api.Fact{{}}}), b.e)
		_, e := rule.Users(ahead, "zed")
		is(t, b.name+", ahead of a group", e, b.e)
		_, e = rule.Text(ahead)
		is(t, b.name+", of Text", e, b.e)
	}
	is(t, "nodes, ahead of facts", rule.Check(api.Scene{Policy: base(), Nodes: []api.Node{{}}, Facts: []api.Fact{{}}}), api.ErrName)
	is(t, "facts", rule.Check(api.Scene{Policy: base(), Facts: []api.Fact{{}}}), api.ErrNone)
}

// P3.2, Z4: what is told of all groups comes behind what is told of each one, and loops behind missing ones.
func TestOrderOfGroups(t *testing.T) {
	group := func(name, members string) api.Group { return api.Group{Name: name, Members: words(members)} }
	for _, c := range []struct {
		l []api.Group
		e api.Errno
	}{
		{[]api.Group{group("a", "@zed"), group("b", "B")}, api.ErrName},
		{[]api.Group{group("a", "@zed"), group("a", "b")}, api.ErrOrder},
		{[]api.Group{group("a", "@zed"), group("b", "b b")}, api.ErrTwice},
		{[]api.Group{group("a", "@a"), group("b", "@zed")}, api.ErrNone},
		{[]api.Group{group("a", "@b"), group("b", "@a")}, api.ErrLoop},
		{[]api.Group{group("a", "x @b"), group("b", "@c"), group("c", "@d"), group("d", "y @b")}, api.ErrLoop},
		{[]api.Group{group("a", "@b @c"), group("b", "@d"), group("c", "@d"), group("d", "a b c d")}, api.OK},
	} {
		is(t, fmt.Sprint(c.l), rule.CheckPolicy(api.Policy{Groups: c.l}), c.e)
	}
}

// P3.2: the fields that each kind uses, of sources and of targets.
func TestWhats(t *testing.T) {
	some := net("10.0.0.0/8")
	for kind := range 13 {
		kind--
		for _, name := range append(notKeys, "ann", "b", longKey) {
			for _, p := range []api.Prefix{{}, some, {Bits: 33}, {Addr: api.Addr{Lo: 1}}, {Addr: api.Addr{Six: true, Hi: 1, Lo: 1}, Bits: 128}} {
				w := api.What{Kind: kind, Name: name, Net: p}
				want := wantOfWhat(w)
				_, e := rule.Addresses(api.Scene{Policy: base()}, w)
				is(t, fmt.Sprint("Addresses ", w), e, want)
				dst := base()
				dst.Grants[1].Dst[0].What = w
				is(t, fmt.Sprint("Dst ", w), rule.CheckPolicy(dst), want)
				src := base()
				src.Grants[1].Src[0] = w
				if want == api.OK && kind == api.WhatSelf {
					want = api.ErrKind
				}
				is(t, fmt.Sprint("Src ", w), rule.CheckPolicy(src), want)
			}
		}
	}
	for _, kind := range []int{math.MinInt, math.MaxInt} {
		_, e := rule.Addresses(api.Scene{}, api.What{Kind: kind, Name: "A"})
		is(t, "Kind", e, api.ErrKind)
	}
}

// wantOfWhat is the error of a what for base, as the document tells it.
func wantOfWhat(w api.What) api.Errno {
	usesName := w.Kind >= api.WhatUser && w.Kind <= api.WhatHost
	usesNet := w.Kind == api.WhatNet
	switch {
	case w.Kind < api.WhatAll || w.Kind > api.WhatSelf:
		return api.ErrKind
	case w.Name != "" && !usesName || w.Net != (api.Prefix{}) && !usesNet:
		return api.ErrForm
	case usesName && slices.Contains(notKeys, w.Name):
		return api.ErrName
	case (w.Kind == api.WhatGroup || w.Kind == api.WhatHost) && w.Name != "b":
		return api.ErrNone
	case usesNet && w.Net.Bits == 33:
		return api.ErrArg
	case usesNet && w.Net.Addr.Lo == 1 && w.Net.Bits == 0:
		return api.ErrForm
	}
	return api.OK
}

// P3.2, Z6: ports and protocols at their bounds.
func TestPortsOfTargets(t *testing.T) {
	for _, proto := range []int{math.MinInt, -1, 0, 1, 2, 6, 16, 17, 18, 255, 256, math.MaxInt} {
		for _, p := range []api.Ports{{To: api.MaxPort}, {}, {From: 7, To: 7}, {From: 1, To: api.MaxPort}, {To: api.MaxPort - 1}, {From: -1}, {From: 8, To: 7}, {To: api.MaxPort + 1}, {From: math.MinInt, To: math.MaxInt}, {From: math.MaxInt, To: math.MinInt}} {
			for _, at := range []int{0, 1} {
				x := base()
				x.Grants[1].Dst = []api.Target{{What: what(api.WhatAll, ""), Ports: api.Ports{To: api.MaxPort}}, {What: what(api.WhatSelf, ""), Ports: api.Ports{To: api.MaxPort}}}
				x.Grants[1].Dst[at].Ports = p
				x.Grants[1].Proto = proto
				want := api.OK
				if p.From < 0 || p.From > p.To || p.To > api.MaxPort || proto < 0 || proto > 255 {
					want = api.ErrArg
				} else if proto != 0 && proto != 6 && proto != 17 && p != (api.Ports{To: 65_535}) {
					want = api.ErrRule
				}
				is(t, fmt.Sprint(proto, p), rule.CheckPolicy(x), want)
			}
		}
	}
}

// P3.2
func TestNames(t *testing.T) {
	for _, s := range notKeys {
		x := base()
		x.Groups[1].Name = s
		is(t, "Group "+s, rule.CheckPolicy(x), api.ErrName)
		x = base()
		x.Groups[1].Members = []string{"bob", s}
		is(t, "Member "+s, rule.CheckPolicy(x), api.ErrName)
		x.Groups[1].Members = []string{"bob", "@" + s}
		is(t, "Member @"+s, rule.CheckPolicy(x), api.ErrName)
		x = base()
		x.Hosts[1].Name = s
		is(t, "Host "+s, rule.CheckPolicy(x), api.ErrName)
		x = base()
		x.Grants[1].Postures = []string{s}
		is(t, "Posture "+s, rule.CheckPolicy(x), api.ErrName)
	}
}

// P3.2
func TestUsers(t *testing.T) {
	p := policy("group a @b zed @c; group b ann @d; group c; group d bob @e ann; group e; group f @a @b @c @d @e cid ann")
	for _, c := range []struct {
		group, want string
		e           api.Errno
	}{
		{"a", "ann bob zed", api.OK}, {"b", "ann bob", api.OK}, {"c", "", api.OK}, {"d", "ann bob", api.OK}, {"e", "", api.OK}, {"f", "ann bob cid zed", api.OK},
		{"g", "", api.ErrNone}, {"", "", api.ErrNone}, {"@a", "", api.ErrNone}, {"ann", "", api.ErrNone}, {"A", "", api.ErrNone},
	} {
		is(t, "Users "+c.group, all(rule.Users(p, c.group)), all(words(c.want), c.e))
	}
	is(t, "Users", all(rule.Users(api.Policy{}, "a")), all([]string{}, api.ErrNone))
}

// P3.2, Z1: there are very many ways through these groups, but few groups.
func TestManyWaysThroughGroups(t *testing.T) {
	var lines strings.Builder
	for i := range api.MaxGroups {
		lines.WriteString("group " + key(i) + " u" + key(i))
		for k := range i {
			lines.WriteString(" @" + key(k))
		}
		lines.WriteString("\n")
	}
	p, _, e := rule.Read(lines.String())
	is(t, "Read", e, api.OK)
	l, e := rule.Users(p, key(api.MaxGroups-1))
	is(t, "Users", all(len(l), slices.IsSorted(l), e), all(api.MaxGroups, true, api.OK))
	p.Groups[0].Members = append(p.Groups[0].Members, "@"+key(api.MaxGroups-1))
	is(t, "a loop", rule.CheckPolicy(p), api.ErrLoop)
}
