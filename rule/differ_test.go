package rule_test

import (
	"fmt"
	"math/rand"
	"testing"

	"holloway/api"
	"holloway/rule"
)

// P3.5
func TestFaults(t *testing.T) {
	fault := func(what int, numbers ...int) []api.Fault {
		return repeat(len(numbers), func(i int) api.Fault { return api.Fault{What: what, Number: numbers[i]} })
	}
	for _, c := range []struct {
		name, text string
		want       []api.Fault
	}{
		{"nothing", "", nil},
		{"groups that nothing names", "group a ann; group b bob @c; group c cid; group d; allow group:d -> *; allow member -> *", append(fault(api.FaultGroup, 0, 1), fault(api.FaultEmpty, 0)...)},
		{"a group as a target", "group a ann; allow * -> group:a", nil},
		{"other whats of this name", "group a ann; host a 10.0.0.0/8; allow user:ann,node:a -> host:a", fault(api.FaultGroup, 0)},
		{"a user of this name", "group a ann; group b a; allow group:b,* -> *", fault(api.FaultGroup, 0)},
		{"hosts that nothing names", "group a ann; host a 10.0.0.0/8; host b ::/0; host c ::/0; allow group:a -> host:b", fault(api.FaultHost, 0, 2)},
		{"a host as a source", "host a 10.0.0.0/8; allow host:a -> *", nil},
		{"sources", "allow user:zed -> *; allow user:dan -> *; allow node:d,node:zed -> *; allow tag:zed -> *; allow node:d,node:a -> *; allow net:9.0.0.0/8 -> *", fault(api.FaultEmpty, 0, 1, 2, 3)},
		{"targets", "allow * -> user:zed; allow * -> user:dan;80; allow * -> node:d,tag:zed; allow * -> node:d,node:a; allow * -> net:9.0.0.0/8", fault(api.FaultEmpty, 0, 1, 2)},
		{"postures", "allow * -> * if p; allow * -> * if q; allow * -> * if p,q; allow user:ann -> * if p; allow user:bob -> * if p; allow net:9.0.0.0/8 -> * if p; allow * -> * if r", fault(api.FaultEmpty, 1, 4, 5, 6)},
		{"self", "allow member -> self; allow tagged -> self; allow tagged,node:b -> self; allow net:9.0.0.0/8 -> self; allow net:100.64.0.0/30 -> self; allow * -> self if p; allow * -> self if s; allow tagged -> self,*; allow node:d -> self,*", fault(api.FaultEmpty, 1, 3, 6, 8)},
		{"sources and targets of two lengths", "allow net:::/0 -> net:0.0.0.0/0", nil},
		{"in this order", "group a; group b; host a ::/0; allow user:zed -> *; allow * -> *; allow * -> user:zed", []api.Fault{{What: api.FaultGroup}, {What: api.FaultGroup, Number: 1}, {What: api.FaultHost}, {What: api.FaultEmpty}, {What: api.FaultEmpty, Number: 2}}},
	} {
		is(t, c.name, all(rule.Faults(scene(people, c.text, "a/p d/q w/s"))), all(c.want, api.OK))
	}
	is(t, "without nodes", all(rule.Faults(scene("", "allow * -> *; allow * -> self; allow member -> *; allow * -> tagged; allow * -> * if p", ""))), all(fault(api.FaultEmpty, 1, 2, 3, 4), api.OK))
}

// P3.5: of all flows that differ the least one.
func TestDiffer(t *testing.T) {
	none := api.Flow{}
	for _, c := range []struct {
		a, b string
		f    api.Flow
		ok   bool
	}{
		{"", "", none, false},
		{"allow * -> *", "", flow(1, "0.0.0.0", "0.0.0.0", 0), true},
		{"allow net:::/0 -> *", "", flow(1, "::", "::", 0), true},
		{"allow * -> * proto 6", "", flow(6, "0.0.0.0", "0.0.0.0", 0), true},
		{"allow * -> *;7 proto 17", "", flow(17, "0.0.0.0", "0.0.0.0", 7), true},
		{"allow * -> *;7", "", flow(6, "0.0.0.0", "0.0.0.0", 7), true},
		{"allow * -> *;0-7", "", flow(1, "0.0.0.0", "0.0.0.0", 0), true},
		{"allow * -> *", "allow * -> * proto 1", flow(2, "0.0.0.0", "0.0.0.0", 0), true},
		{"allow * -> *", "allow * -> * proto 1; allow * -> * proto 2; allow * -> * proto 4", flow(3, "0.0.0.0", "0.0.0.0", 0), true},
		{"allow * -> * proto 255", "", flow(255, "0.0.0.0", "0.0.0.0", 0), true},
		{"allow * -> *", "allow * -> *;0-1000; allow * -> *;1001-65535", none, false},
		{"allow * -> *", "allow * -> *;0-1000; allow * -> *;1002-65535", flow(6, "0.0.0.0", "0.0.0.0", 1001), true},
		{"allow * -> *", "allow * -> *;0-65534", flow(6, "0.0.0.0", "0.0.0.0", 65_535), true},
		{"allow * -> *", "allow net:0.0.0.0/0 -> *; allow net:::/1,net:8000::/1 -> *", none, false},
		{"allow * -> *", "allow net:0.0.0.0/0 -> *; allow net:::/1,net:8000::/2 -> *", flow(1, "c000::", "::", 0), true},
		{"allow * -> net:0.0.0.0/1", "allow * -> net:0.0.0.0/2", flow(1, "0.0.0.0", "64.0.0.0", 0), true},
		{"allow member -> self", "allow user:ann -> user:ann", flow(1, "100.64.0.2", "100.64.0.2", 0), true},
		{"allow user:ann -> self", "allow user:ann -> user:ann", none, false},
		{"allow user:ann -> self", "allow node:a,node:c -> node:a; allow node:a -> node:c", flow(1, "100.64.0.3", "100.64.0.3", 0), true},
		{"allow tagged -> self", "", none, false},
		{"allow * -> self", "allow member -> self", none, false},
		{"allow user:zed -> *; allow * -> node:d", "", none, false},
		{"allow net:0.0.0.0/0 -> net:::/0", "", none, false},
		{"allow user:ann -> * if p", "allow node:a -> *", none, false},
		{"allow * -> * if p,q", "allow node:a -> *", flow(1, "100.64.0.2", "0.0.0.0", 0), true},
		{"allow * -> * if r", "", none, false},
		{"allow node:b -> *;5; allow node:a -> *;9", "", flow(6, "100.64.0.1", "0.0.0.0", 9), true},
		{"allow node:b -> * proto 1; allow node:a -> * proto 2", "", flow(1, "100.64.0.2", "0.0.0.0", 0), true},
		{"allow node:a -> node:c;1,node:b;9", "", flow(6, "100.64.0.1", "100.64.0.2", 9), true},
		{"allow node:a -> tag:web;443 proto 6", "allow node:a -> tag:web;443-444 proto 6", flow(6, "100.64.0.1", "100.64.0.9", 444), true},
		{"group eng ann; allow group:eng -> *", "allow user:ann -> *", none, false},
		{"host h 10.0.0.0/8; allow * -> host:h", "allow * -> net:10.0.0.0/8", none, false},
		{"deny 6 100.64.0.1 100.64.0.2 1 1", "accept 6 100.64.0.1 100.64.0.2 1 1", none, false},
	} {
		a, b := scene(people, c.a, "a/p b/q"), scene(people, c.b, "a/p b/q")
		is(t, "Differ "+c.a+" | "+c.b, all(rule.Differ(a, b)), all(c.f, c.ok, api.OK))
		is(t, "Differ "+c.b+" | "+c.a, all(rule.Differ(b, a)), all(c.f, c.ok, api.OK))
		is(t, "Differ "+c.a, all(rule.Differ(a, a)), all(none, false, api.OK))
	}
}

// P3.5: scenes differ by their nodes and facts, too.
func TestDifferByNodes(t *testing.T) {
	text := "allow member -> self; allow * -> tag:web if p"
	for _, c := range []struct {
		who, known string
		f          api.Flow
		ok         bool
	}{
		{people, "a/p", api.Flow{}, false},
		{people, "a/p a/q", api.Flow{}, false},
		{people, "", flow(1, "100.64.0.1", "100.64.0.9", 0), true},
		{people, "a/p b/p", flow(1, "100.64.0.2", "100.64.0.9", 0), true},
		{"a ann 100.64.0.1; b bob 100.64.0.2; c bob 100.64.0.3; e eve 100.64.0.5 fd00::5; w #web 100.64.0.9 100.64.0.10 fd00::10", "a/p", flow(1, "100.64.0.1", "100.64.0.3", 0), true},
		{"a ann 100.64.0.1 100.64.0.3; b bob 100.64.0.2; e eve 100.64.0.5; f eve fd00::5; w #web 100.64.0.9 100.64.0.10 fd00::10", "a/p", flow(1, "100.64.0.3", "100.64.0.9", 0), true},
		{"a ann 100.64.0.1; b bob 100.64.0.2; c ann 100.64.0.3; e eve 100.64.0.5 fd00::5; f eve fd00::6; w #web 100.64.0.9 100.64.0.10", "a/p", flow(1, "fd00::5", "fd00::6", 0), true},
		{"a zed 100.64.0.1; b yan 100.64.0.2; c zed 100.64.0.3; e web 100.64.0.5 fd00::5; x #web 100.64.0.9 100.64.0.10 fd00::10", "a/p", api.Flow{}, false},
	} {
		is(t, "Differ "+c.who, all(rule.Differ(scene(people, text, "a/p"), scene(c.who, text, c.known))), all(c.f, c.ok, api.OK))
	}
}

// P3.5
func TestIdle(t *testing.T) {
	for _, c := range []struct {
		text string
		want []int
	}{
		{"", nil},
		{"group eng ann; allow group:eng -> tag:web;443 proto 6", nil},
		{"group eng ann; allow group:eng -> tag:web;443 proto 6; allow user:ann -> tag:web;443 proto 6", []int{0, 1}},
		{"allow * -> *; allow * -> *; allow * -> *", []int{0, 1, 2}},
		{"allow user:zed -> *; allow * -> *;80; allow * -> user:dan", []int{0, 2}},
		{"allow * -> *;0-10; allow * -> *;5-20; allow * -> *;11-30", []int{1}},
		{"allow * -> *;0-10; allow * -> *;5-21; allow * -> *;11-20", []int{2}},
		{"allow * -> * proto 6; allow * -> * proto 17; allow * -> *", []int{0, 1}},
		{"allow member -> self; allow user:bob -> node:b; allow node:a -> node:c; allow node:a -> node:b", []int{1, 2}},
		{"allow net:0.0.0.0/1 -> *; allow net:128.0.0.0/1 -> *; allow net:0.0.0.0/0 -> net:::/0,net:0.0.0.0/0", []int{0, 1, 2}},
		{"allow user:ann -> * if p; allow node:a -> *; allow node:c -> * if p", []int{0, 1, 2}},
	} {
		is(t, "Idle "+c.text, all(rule.Idle(scene(people, c.text, "a/p"))), all(c.want, api.OK))
	}
}

// P3.5: as many grants as can be compared, and one more; the scenes come first.
func TestComparedGrants(t *testing.T) {
	many := func(n int) api.Scene {
		s := scene(people, "", "")
		s.Policy.Grants = repeat(n, func(i int) api.Grant {
			return policy(fmt.Sprintf("allow * -> *;%d", i)).Grants[0]
		})
		return s
	}
	wrong := api.Scene{Nodes: []api.Node{{}}}
	for n := range api.MaxCompare + 1 {
		is(t, "Idle", all(rule.Idle(many(n))), all([]int{}, api.OK))
		_, ok, e := rule.Differ(many(n), many(api.MaxCompare-n))
		is(t, "Differ", all(ok, e), all(2*n != api.MaxCompare, api.OK))
		is(t, "Differ", all(rule.Differ(many(n), many(api.MaxCompare+1-n))), all(api.Flow{}, false, api.ErrLarge))
	}
	large := many(api.MaxCompare + 1)
	is(t, "Idle", all(rule.Idle(large)), all([]int{}, api.ErrLarge))
	is(t, "the second scene, ahead of the grants", all(rule.Differ(large, wrong)), all(api.Flow{}, false, api.ErrName))
	is(t, "the first scene, ahead of the second one", all(rule.Differ(wrong, api.Scene{Facts: []api.Fact{{}}})), all(api.Flow{}, false, api.ErrName))
	is(t, "the first scene, ahead of the second one", all(rule.Differ(api.Scene{Facts: []api.Fact{{}}}, wrong)), all(api.Flow{}, false, api.ErrNone))
	large.Nodes = wrong.Nodes
	is(t, "the scene, ahead of the grants", all(rule.Idle(large)), all([]int{}, api.ErrName))
}

// P3.5: random scenes are held against the document's words.
func TestComparisons(t *testing.T) {
	r := chance{rand.New(rand.NewSource(5))}
	alike, apart, idle := 0, 0, 0
	for range 250 {
		s := r.scene()
		u := r.like(s)
		if r.Intn(5) == 0 {
			u = r.scene()
		}
		f, ok := differ(s, u)
		name := fmt.Sprintf("%+v: %+v", s, u)
		is(t, name, all(rule.Differ(s, u)), all(f, ok, api.OK))
		is(t, name, all(rule.Faults(s)), all(oracle{s}.faults(), api.OK))
		if ok {
			apart++
			one, _ := rule.Permits(s, f)
			other, _ := rule.Permits(u, f)
			is(t, name, one, !other)
		} else {
			alike++
		}
		want := oracle{u}.idle()
		idle += len(want)
		is(t, name, all(rule.Idle(u)), all(want, api.OK))
	}
	if alike < 50 || apart < 50 || idle < 100 {
		t.Errorf("%d pairs are alike, %d are not, %d grants are idle", alike, apart, idle)
	}
}

// P3.5, Z1: scenes with as much as they can have.
func TestLargeComparisons(t *testing.T) {
	s := api.Scene{Nodes: full()}
	for i := range s.Nodes {
		if s.Nodes[i].User != "" {
			s.Nodes[i].User = key(i)
		}
	}
	s.Policy = policy("allow member -> self; allow member -> tagged;443; allow * -> member;80-90; allow tagged -> *;1")
	u := s
	u.Policy = policy("allow * -> self; allow member -> tagged;443; allow tagged -> *;1; allow member,tagged,* -> member;80-90")
	is(t, "Differ", all(rule.Differ(s, u)), all(api.Flow{}, false, api.OK))
	is(t, "Idle", all(rule.Idle(s)), all([]int{}, api.OK))
	s.Policy = fullPolicy()
	in := input{s: s, t: u, p: s.Policy, nodes: s.Nodes, group: key(0), w: what(api.WhatAll, ""), f: flow(6, "::1", "::2", 1), node: key(0)}
	for _, c := range calls {
		want := api.OK
		if c.name == "Differ" || c.name == "Idle" {
			want = api.ErrLarge
		}
		is(t, c.name, errnoOf(c.f(in)), want)
	}
}
