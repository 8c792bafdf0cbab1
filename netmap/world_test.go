package netmap_test

import (
	"fmt"
	"slices"
	"strings"
	"testing"

	"holloway/addr"
	"holloway/api"
	"holloway/filter"
	"holloway/netmap"
	"holloway/rule"
)

// hall are nodes of users, and with tags; d has no address, r and s lead to others.
const hall = "a laptop ann 100.64.0.1; b box bob 100.64.0.2 fd00::2; c pad ann 100.64.0.3; d desk dan; r router #gate 100.64.0.8 10.0.0.0/8 10.1.0.0/16 192.168.0.0/24 fd10::/16; s spare #gate,web 10.1.0.0/16 10.2.0.0/16"

// ways are firsts of hall.
const ways = "r=10.0.0.0/8 s=10.1.0.0/16 s=10.2.0.0/16 r=192.168.0.0/24 r=fd10::/16"

// P8.1, Z4
func TestCheckWorld(t *testing.T) {
	right := func() api.World {
		return world(hall, "allow user:ann -> tag:gate", "a/safe", "r=10.0.0.0/8 r=10.1.0.0/16 s=10.2.0.0/16")
	}
	inOrder(t, right, netmap.CheckWorld, []fault[api.World]{
		{"the policy", func(w *api.World) { w.Scene.Policy.Grants[0].Src = nil }, api.ErrForm},
		{"a node", func(w *api.World) { w.Scene.Nodes[5].Key = "A" }, api.ErrName},
		{"a fact", func(w *api.World) { w.Scene.Facts[0].Node = "z" }, api.ErrNone},
		{"too many firsts", func(w *api.World) { w.Firsts = make([]api.First, api.MaxFirsts+1) }, api.ErrLarge},
		{"bits of the first prefix", func(w *api.World) { w.Firsts[0].Prefix.Bits = 33 }, api.ErrArg},
		{"the form of the first prefix", func(w *api.World) { w.Firsts[0].Prefix.Bits = 1 }, api.ErrForm},
		{"no such first node", func(w *api.World) { w.Firsts[0].Node = "z" }, api.ErrNone},
		{"no key", func(w *api.World) { w.Firsts[0].Node = "" }, api.ErrNone},
		{"no such first route", func(w *api.World) { w.Firsts[0].Prefix.Bits = 9 }, api.ErrRule},
		{"no such first route of this one", func(w *api.World) { w.Firsts[0].Node = "s" }, api.ErrRule},
		{"the second prefix", func(w *api.World) { w.Firsts[1].Prefix.Addr.Hi = 1 }, api.ErrForm},
		{"no such second node", func(w *api.World) { w.Firsts[1] = api.First{Prefix: net("10.0.0.0/8"), Node: "e"} }, api.ErrNone},
		{"no such second route", func(w *api.World) { w.Firsts[1] = api.First{Prefix: net("10.0.0.0/8"), Node: "s"} }, api.ErrRule},
		{"twice", func(w *api.World) { w.Firsts[1] = w.Firsts[0] }, api.ErrOrder},
		{"of two nodes", func(w *api.World) { w.Firsts[2] = api.First{Prefix: net("10.1.0.0/16"), Node: "s"} }, api.ErrOrder},
		{"out of order", func(w *api.World) { w.Firsts[1], w.Firsts[2] = w.Firsts[2], w.Firsts[1] }, api.ErrOrder},
		{"no suffix", func(w *api.World) { w.Suffix = "" }, api.ErrForm},
	})
	is(t, "no firsts", netmap.CheckWorld(world(hall, "", "", "")), api.OK)
	is(t, "all kinds of firsts", netmap.CheckWorld(world(hall, "", "", ways)), api.OK)
	is(t, "nothing", netmap.CheckWorld(api.World{}), api.ErrForm)
	is(t, "only a suffix", netmap.CheckWorld(api.World{Suffix: "x"}), api.OK)
}

// P8.1: prefixes come by their addresses, then by their bits.
func TestOrderOfFirsts(t *testing.T) {
	w := world("a a ann 0.0.0.0/0 10.0.0.0/8 10.0.0.0/9 11.0.0.0/8 ::/0 ::/1", "", "", "a=0.0.0.0/0 a=10.0.0.0/8 a=10.0.0.0/9 a=11.0.0.0/8 a=::/0 a=::/1")
	for i := range w.Firsts {
		for k := range w.Firsts {
			x := w
			x.Firsts = []api.First{w.Firsts[i], w.Firsts[k]}
			want := api.OK
			if i >= k {
				want = api.ErrOrder
			}
			is(t, fmt.Sprint(x.Firsts), netmap.CheckWorld(x), want)
		}
	}
}

// crowd are 500 nodes that lead to a prefix each.
func crowd() api.World {
	w := api.World{Suffix: "net"}
	for i := range api.MaxNodes {
		p := api.Prefix{Addr: api.Addr{Lo: uint64(i) << 8}, Bits: 24}
		w.Scene.Nodes = append(w.Scene.Nodes, api.Node{Key: key(i), Name: "x", User: "ann", Addrs: []api.Addr{{Lo: 1<<31 + uint64(i)}}, Routes: []api.Prefix{p}})
		w.Firsts = append(w.Firsts, api.First{Prefix: p, Node: key(i)})
	}
	return w
}

// P8.1: limits
func TestManyFirsts(t *testing.T) {
	w := crowd()
	is(t, "full", netmap.CheckWorld(w), api.OK)
	w.Scene.Policy.Grants = []api.Grant{{Src: []api.What{{Kind: api.WhatAll}}, Dst: []api.Target{{What: api.What{Kind: api.WhatAll}, Ports: api.Ports{To: api.MaxPort}}}}}
	m, e := netmap.Make(w, key(7))
	is(t, "Make", all(len(m.Peers), m.Peers[0].Routes, m.Peers[498].Routes, e), all(api.MaxPeers, []api.Prefix{w.Firsts[0].Prefix}, []api.Prefix{w.Firsts[499].Prefix}, api.OK))
	is(t, "CheckMap", netmap.CheckMap(m), api.OK)
	w.Firsts = append(w.Firsts, w.Firsts[0])
	is(t, "too many", netmap.CheckWorld(w), api.ErrLarge)
}

// P8.1
func TestSuffixes(t *testing.T) {
	label := strings.Repeat("a", api.MaxName)
	full := label + "." + label + "." + strings.Repeat("b", api.MaxSuffix-2*api.MaxName-2)
	for _, s := range append(words("x corp.net a-.b_ a.b.c"), full) {
		is(t, s, netmap.CheckWorld(api.World{Suffix: s}), api.OK)
		is(t, s, netmap.CheckMap(api.Map{Self: node("a a ann"), Suffix: s}), api.OK)
	}
	for _, s := range append(words(". .x x. a..b A a.B 0 a.0 é "+label+"a "+full+"b"), "", "a b", "a\n") {
		is(t, s, netmap.CheckWorld(api.World{Suffix: s}), api.ErrForm)
		is(t, s, netmap.CheckMap(api.Map{Self: node("a a ann"), Suffix: s}), api.ErrForm)
	}
}

// brief are peers in one line.
func brief(l []api.Peer) string {
	var out []string
	for _, p := range l {
		w := []string{p.Key}
		for _, r := range p.Routes {
			text, _ := addr.PrefixText(r)
			w = append(w, text)
		}
		out = append(out, strings.Join(w, " "))
	}
	return strings.Join(out, "; ")
}

// P8.1
func TestMake(t *testing.T) {
	for _, c := range []struct {
		policy, node, peers string
		filters             int
	}{
		{"", "a", "", 0},
		// Peers of chapter 3, in both directions.
		{"allow node:a -> node:b;443 proto 6", "a", "b", 0},
		{"allow node:a -> node:b;443 proto 6", "b", "a", 1},
		{"allow node:a -> node:b;443 proto 6", "c", "", 0},
		{"allow member -> self", "a", "c", 1},
		// Without an address nobody is reached, but a prefix can be.
		{"allow * -> node:d,node:s", "a", "", 0},
		{"allow * -> node:d,node:s", "d", "", 0},
		{"allow node:d -> *", "d", "", 0},
		{"allow node:a -> net:10.2.3.0/24", "a", "r 10.0.0.0/8; s 10.2.0.0/16", 0},
		{"allow node:a -> net:10.2.3.0/24", "r", "", 1},
		{"allow node:a -> net:10.2.3.0/24", "s", "", 1},
		// A prefix is reached if one of its addresses is: a part of it, all of it, or what is around it.
		{"allow node:a -> net:10.1.0.0/32", "a", "r 10.0.0.0/8; s 10.1.0.0/16", 0},
		{"allow node:a -> net:10.0.255.255/32", "a", "r 10.0.0.0/8", 0},
		{"allow node:a -> net:10.1.0.0/16", "a", "r 10.0.0.0/8; s 10.1.0.0/16", 0},
		{"allow node:a -> net:8.0.0.0/5", "a", "r 10.0.0.0/8; s 10.1.0.0/16 10.2.0.0/16", 0},
		{"allow node:a -> net:11.0.0.0/8", "a", "", 0},
		{"host h 192.168.0.7/32; allow node:a -> host:h", "a", "r 192.168.0.0/24", 0},
		{"allow node:a -> *", "a", "b; c; r 10.0.0.0/8 192.168.0.0/24; s 10.1.0.0/16 10.2.0.0/16", 1},
		{"allow node:a -> *", "b", "a", 1},
		// Any flow will do.
		{"allow node:a -> net:192.168.0.0/25 proto 1", "a", "r 192.168.0.0/24", 0},
		{"allow node:a -> net:192.168.0.0/25 proto 17", "a", "r 192.168.0.0/24", 0},
		{"allow node:a -> net:192.168.0.0/25;65535", "a", "r 192.168.0.0/24", 0},
		{"allow node:a -> net:192.168.0.0/25 proto 255", "a", "r 192.168.0.0/24", 0},
		// From and To are of one length.
		{"allow node:a -> net:fd10::/16", "a", "", 0},
		{"allow node:b -> net:fd10::/16", "b", "r fd10::/16", 0},
		{"allow net:fd00::/16 -> *", "b", "r fd10::/16", 1},
		{"allow net:0.0.0.0/0 -> net:::/0", "b", "", 1},
		{"allow node:b -> net:0.0.0.0/0", "b", "a; c; r 10.0.0.0/8 192.168.0.0/24; s 10.1.0.0/16 10.2.0.0/16", 1},
		// Others may reach a prefix, or answer from there.
		{"allow node:c -> net:10.0.0.0/8", "a", "", 0},
		{"allow net:10.0.0.0/8 -> node:a", "a", "", 1},
		// Sources meet postures.
		{"allow user:ann -> net:192.168.0.0/24 if safe", "a", "r 192.168.0.0/24", 0},
		{"allow user:ann -> net:192.168.0.0/24 if safe", "c", "", 0},
		{"allow user:ann -> net:192.168.0.0/24 if new,old", "a", "", 0},
		// The node itself is no peer, though it leads to a prefix.
		{"allow tag:gate -> net:10.0.0.0/8", "r", "s 10.1.0.0/16 10.2.0.0/16", 1},
		{"allow tag:gate -> net:10.0.0.0/8", "s", "", 1},
	} {
		w := world(hall, c.policy, "a/safe c/known", ways)
		m, e := netmap.Make(w, c.node)
		is(t, c.policy+" for "+c.node, all(brief(m.Peers), len(m.Filters), e), all(c.peers, c.filters, api.OK))
	}
}

// P8.1: addresses of nodes can be in a prefix, too; of a user all nodes are reached, also the node itself.
func TestMakeWithNodesInPrefixes(t *testing.T) {
	const who = "a a ann 10.0.0.1; b b ann 10.0.0.2; c c bob 10.1.0.1; d d #web 10.1.0.2; r r eve 10.0.0.0/16 10.1.0.0/16; x x ann 10.1.0.0/24"
	for _, c := range []struct{ policy, node, peers string }{
		{"allow member -> self", "a", "b; r 10.0.0.0/16"},
		{"allow member -> self", "c", "r 10.1.0.0/16; x 10.1.0.0/24"},
		{"allow * -> self", "d", ""},
		{"allow node:a -> node:c", "a", "c; r 10.1.0.0/16; x 10.1.0.0/24"},
		{"allow node:a -> tagged", "a", "d; r 10.1.0.0/16; x 10.1.0.0/24"},
		{"allow node:b -> self;80,node:c;81 proto 6", "b", "a; c; r 10.0.0.0/16 10.1.0.0/16; x 10.1.0.0/24"},
		{"allow node:b -> node:b", "b", "r 10.0.0.0/16"},
	} {
		m, e := netmap.Make(world(who, c.policy, "", "r=10.0.0.0/16 r=10.1.0.0/16 x=10.1.0.0/24"), c.node)
		is(t, c.policy+" for "+c.node, all(brief(m.Peers), e), all(c.peers, api.OK))
	}
}

// P8.1: the parts of a map
func TestMakeTells(t *testing.T) {
	w := world(hall, "allow user:ann -> tag:gate,net:10.2.0.0/16; allow node:b -> user:ann;22 proto 6", "", ways)
	m, e := netmap.Make(w, "a")
	want := told("a laptop ann 100.64.0.1", "b box 100.64.0.2 fd00::2; r router 100.64.0.8 10.0.0.0/8; s spare 10.2.0.0/16", "6 100.64.0.2/32,fd00::2/128 100.64.0.1/32 22")
	is(t, "Make", all(m, e), all(want, api.OK))
	m, e = netmap.Make(w, "s")
	want = told("s spare #gate,web 10.1.0.0/16 10.2.0.0/16", "", "any 100.64.0.1/32,100.64.0.3/32 10.2.0.0/16 0-65535")
	is(t, "Make", all(m, e), all(want, api.OK))
}

// wide is a policy with too many rows for the node b.
func wide() string {
	return strings.Join(repeat(16, func(i int) string {
		return "allow * -> " + strings.Join(repeat(20, func(k int) string { return fmt.Sprintf("node:b;%d", 2*(20*i+k)) }), ",")
	}), "; ")
}

// P8.1, Z3, Z4
func TestMakeErrors(t *testing.T) {
	w := world(hall, wide(), "", ways)
	_, e := netmap.Make(w, "a")
	is(t, "another node", e, api.OK)
	for _, c := range []struct {
		node string
		e    api.Errno
	}{{"b", api.ErrLarge}, {"z", api.ErrNone}, {"", api.ErrNone}, {"A", api.ErrNone}} {
		is(t, c.node, all(netmap.Make(w, c.node)), all(api.Map{}, c.e))
	}
	for _, node := range words("a b z") {
		x := w
		x.Suffix = "A"
		is(t, "a wrong world", all(netmap.Make(x, node)), all(api.Map{}, api.ErrForm))
		x.Firsts = make([]api.First, api.MaxFirsts+1)
		is(t, "a wrong world", all(netmap.Make(x, node)), all(api.Map{}, api.ErrLarge))
	}
}

// open says whether some flow from an address to another one is permitted.
func open(s api.Scene, from, to api.Addr) bool {
	for _, proto := range []int{1, 2, 6, 17} {
		if l, e := rule.Open(s, api.Flow{Proto: proto, From: from, To: to}); len(l) > 0 && e == api.OK {
			return true
		}
	}
	return false
}

// anyOpen says whether some flow from one of some addresses to one of others is permitted.
func anyOpen(s api.Scene, from, to []api.Addr) bool {
	return slices.ContainsFunc(from, func(a api.Addr) bool {
		return slices.ContainsFunc(to, func(b api.Addr) bool { return a.Six == b.Six && open(s, a, b) })
	})
}

// peersOf are the peers of a node, told as the document tells them: with all flows, one after the other.
func peersOf(w api.World, self api.Node) []api.Peer {
	var out []api.Peer
	for _, n := range w.Scene.Nodes {
		p := api.Peer{Key: n.Key, Name: n.Name, Addrs: n.Addrs}
		for _, f := range w.Firsts {
			inside := slices.DeleteFunc(slices.Clone(eachAddr), func(a api.Addr) bool { in, _ := addr.Contains(f.Prefix, a); return !in })
			if f.Node == n.Key && anyOpen(w.Scene, self.Addrs, inside) {
				p.Routes = append(p.Routes, f.Prefix)
			}
		}
		near := anyOpen(w.Scene, self.Addrs, n.Addrs) || anyOpen(w.Scene, n.Addrs, self.Addrs)
		if n.Key != self.Key && (near || len(p.Routes) > 0) {
			out = append(out, p)
		}
	}
	return out
}

// P8.1: random worlds
func TestMakeOfMany(t *testing.T) {
	r := newChance(1)
	some, routes := 0, 0
	for range 500 {
		w := r.world()
		is(t, "CheckWorld", netmap.CheckWorld(w), api.OK)
		for _, n := range w.Scene.Nodes {
			in, _ := filter.Compile(w.Scene, n.Key)
			want := api.Map{Self: n, Peers: peersOf(w, n), Filters: in, Suffix: w.Suffix}
			got, e := netmap.Make(w, n.Key)
			is(t, fmt.Sprintf("%+v for %s", w, n.Key), all(got, e), all(want, api.OK))
			is(t, "CheckMap", netmap.CheckMap(got), api.OK)
			for _, p := range want.Peers {
				some++
				routes += len(p.Routes)
			}
		}
	}
	if some < 2_000 || routes < 1_000 {
		t.Errorf("%d peers, %d routes", some, routes)
	}
}
