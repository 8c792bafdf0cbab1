package rule_test

import (
	"math/rand"
	"slices"
	"strings"

	"holloway/addr"
	"holloway/api"
	"holloway/rule"
)

// An oracle is a scene whose meaning is told as the document tells it: of one flow after the other, with all looked up again and again.
type oracle struct{ api.Scene }

func (o oracle) users(group string) []string {
	var out []string
	for _, g := range o.Policy.Groups {
		for _, m := range g.Members {
			if inner, ok := strings.CutPrefix(m, "@"); g.Name == group && ok {
				out = append(out, o.users(inner)...)
			} else if g.Name == group {
				out = append(out, m)
			}
		}
	}
	slices.Sort(out)
	return slices.Compact(out)
}

// owner is the node that has an address, or a zero one.
func (o oracle) owner(a api.Addr) api.Node {
	for _, n := range o.Nodes {
		if slices.Contains(n.Addrs, a) {
			return n
		}
	}
	return api.Node{}
}

func within(p api.Prefix, a api.Addr) bool {
	is, e := addr.Contains(p, a)
	return is && e == api.OK
}

// isOf says whether an address is one of a what.
func (o oracle) isOf(w api.What, a api.Addr) bool {
	n := o.owner(a)
	there := n.Key != ""
	switch w.Kind {
	case api.WhatAll:
		return true
	case api.WhatUser:
		return there && n.User == w.Name
	case api.WhatGroup:
		return there && slices.Contains(o.users(w.Name), n.User)
	case api.WhatTag:
		return slices.Contains(n.Tags, w.Name)
	case api.WhatNode:
		return n.Key == w.Name
	case api.WhatHost:
		return slices.ContainsFunc(o.Policy.Hosts, func(h api.Host) bool { return h.Name == w.Name && within(h.Net, a) })
	case api.WhatNet:
		return within(w.Net, a)
	case api.WhatMember:
		return n.User != ""
	case api.WhatTagged:
		return len(n.Tags) > 0
	}
	return false
}

func (o oracle) isSource(g api.Grant, a api.Addr) bool {
	named, met := false, len(g.Postures) == 0
	for _, w := range g.Src {
		named = named || o.isOf(w, a)
	}
	for _, p := range g.Postures {
		met = met || slices.Contains(o.Facts, api.Fact{Node: o.owner(a).Key, Posture: p})
	}
	return named && met
}

func (o oracle) grantPermits(g api.Grant, f api.Flow) bool {
	if g.Proto != 0 && g.Proto != f.Proto || !o.isSource(g, f.From) {
		return false
	}
	for _, t := range g.Dst {
		mine := t.What.Kind == api.WhatSelf && o.owner(f.From).User != "" && o.owner(f.From).User == o.owner(f.To).User
		if t.Ports.From <= f.ToPort && f.ToPort <= t.Ports.To && (mine || o.isOf(t.What, f.To)) {
			return true
		}
	}
	return false
}

// why are the numbers of the grants that permit a flow.
func (o oracle) why(f api.Flow) []int {
	var out []int
	for i, g := range o.Policy.Grants {
		if o.grantPermits(g, f) {
			out = append(out, i)
		}
	}
	return out
}

func (o oracle) permits(f api.Flow) bool { return len(o.why(f)) > 0 }

// What random scenes are made of, and where what is decided can change.
var (
	somePrefixes = nets("0.0.0.0/0 10.0.0.0/29 10.0.0.0/30 10.0.0.4/30 10.0.0.2/31 10.0.0.6/32 ::/0 fd00::/126 fd00::2/127 fd00::1/128")
	somePorts    = []api.Ports{{From: 80, To: 80}, {From: 80, To: 90}, {From: 85, To: 100}, {From: 91, To: 99}, {}, {From: 65_535, To: 65_535}, {From: 0, To: 79}, {From: 81, To: 65_535}, {From: 443, To: 443}}
	someAddrs    = addrs("10.0.0.0 10.0.0.1 10.0.0.2 10.0.0.3 10.0.0.4 10.0.0.5 10.0.0.6 10.0.0.7 fd00:: fd00::1 fd00::2 fd00::3")
	eachAddr     = addrs("0.0.0.0 10.0.0.0 10.0.0.1 10.0.0.2 10.0.0.3 10.0.0.4 10.0.0.5 10.0.0.6 10.0.0.7 10.0.0.8 255.255.255.255 :: fd00:: fd00::1 fd00::2 fd00::3 fd00::4 ffff:ffff:ffff:ffff:ffff:ffff:ffff:ffff")
	eachPort     = []int{0, 1, 79, 80, 81, 84, 85, 90, 91, 99, 100, 101, 443, 444, 65_534, 65_535}
	eachProto    = []int{1, 2, 3, 6, 17, 47, 255}
)

func addrs(s string) []api.Addr {
	var out []api.Addr
	for _, x := range words(s) {
		out = append(out, ip(x))
	}
	return out
}

// flows are the flows between two addresses, by Proto, then ToPort.
func flows(from, to api.Addr) []api.Flow {
	var out []api.Flow
	for _, proto := range eachProto {
		out = append(out, flowsOf(proto, from, to)...)
	}
	return out
}

// flowsOf are those of a protocol; of two lengths there are none.
func flowsOf(proto int, from, to api.Addr) []api.Flow {
	var out []api.Flow
	for _, port := range eachPort {
		if from.Six == to.Six && (port == 0 || proto == 6 || proto == 17) {
			out = append(out, api.Flow{Proto: proto, From: from, To: to, ToPort: port})
		}
	}
	return out
}

// differ is the least flow that just one of two scenes permits.
func differ(s, t api.Scene) (api.Flow, bool) {
	for _, proto := range eachProto {
		for _, from := range eachAddr {
			for _, to := range eachAddr {
				for _, f := range flowsOf(proto, from, to) {
					if (oracle{s}).permits(f) != (oracle{t}).permits(f) {
						return f, true
					}
				}
			}
		}
	}
	return api.Flow{}, false
}

// without is a scene without one of its grants.
func without(s api.Scene, i int) api.Scene {
	s.Policy.Grants = slices.Delete(slices.Clone(s.Policy.Grants), i, i+1)
	return s
}

// idle are the grants without which a scene does not differ.
func (o oracle) idle() []int {
	var out []int
	for i := range o.Policy.Grants {
		if _, ok := differ(o.Scene, without(o.Scene, i)); !ok {
			out = append(out, i)
		}
	}
	return out
}

func (o oracle) faults() []api.Fault {
	var out []api.Fault
	for i, g := range o.Policy.Groups {
		if !o.names(what(api.WhatGroup, g.Name)) {
			out = append(out, api.Fault{What: api.FaultGroup, Number: i})
		}
	}
	for i, h := range o.Policy.Hosts {
		if !o.names(what(api.WhatHost, h.Name)) {
			out = append(out, api.Fault{What: api.FaultHost, Number: i})
		}
	}
	for i, g := range o.Policy.Grants {
		from, to := false, false
		for _, a := range eachAddr {
			from = from || o.isSource(g, a)
			for _, t := range g.Dst {
				to = to || o.isOf(t.What, a) || t.What.Kind == api.WhatSelf && o.isSource(g, a) && o.owner(a).User != ""
			}
		}
		if !from || !to {
			out = append(out, api.Fault{What: api.FaultEmpty, Number: i})
		}
	}
	return out
}

// names says whether the policy names a group or a host.
func (o oracle) names(w api.What) bool {
	for _, g := range o.Policy.Grants {
		if slices.Contains(g.Src, w) || slices.ContainsFunc(g.Dst, func(t api.Target) bool { return t.What == w }) {
			return true
		}
	}
	return w.Kind == api.WhatGroup && slices.ContainsFunc(o.Policy.Groups, func(g api.Group) bool { return slices.Contains(g.Members, "@"+w.Name) })
}

// meets says whether some flow is permitted from an address of a node to one of another.
func (o oracle) meets(n, m api.Node) bool {
	for _, from := range n.Addrs {
		for _, to := range m.Addrs {
			if slices.ContainsFunc(flows(from, to), o.permits) {
				return true
			}
		}
	}
	return false
}

// peers are the other nodes that a node meets, or that meet it.
func (o oracle) peers(n api.Node) []string {
	var out []string
	for _, m := range o.Nodes {
		if m.Key != n.Key && (o.meets(n, m) || o.meets(m, n)) {
			out = append(out, m.Key)
		}
	}
	return out
}

func (o oracle) failures() []int {
	var out []int
	for i, t := range o.Policy.Tests {
		if o.permits(t.Flow) != t.Accept {
			out = append(out, i)
		}
	}
	return out
}

// chance makes random scenes.
type chance struct{ *rand.Rand }

func pick[T any](r chance, l []T) T { return l[r.Intn(len(l))] }

// some are some words of a string, rising as they do there.
func (r chance) some(s string) []string {
	var out []string
	for _, x := range words(s) {
		if r.Intn(3) == 0 {
			out = append(out, x)
		}
	}
	return out
}

func (r chance) nodes() []api.Node {
	free := slices.Clone(someAddrs)
	r.Shuffle(len(free), func(i, k int) { free[i], free[k] = free[k], free[i] })
	var out []api.Node
	for _, x := range words("n1 n2 n3 n4 n5 n6") {
		if r.Intn(4) == 0 {
			continue
		}
		n := api.Node{Key: x, Name: pick(r, words("laptop x store")), User: pick(r, words("ann ann bob cid")), Routes: nets("10.0.0.0/29 ::/0")[:r.Intn(3)]}
		if r.Intn(3) == 0 {
			n.User, n.Tags = "", append(r.some("db ops"), "web")
		}
		k := r.Intn(4)
		n.Addrs, free = free[:k:k], free[k:]
		out = append(out, n)
		if len(free) < 4 {
			break
		}
	}
	return out
}

func (r chance) facts(l []api.Node) []api.Fact {
	var out []api.Fact
	for _, n := range l {
		for _, p := range r.some("p q") {
			out = append(out, api.Fact{Node: n.Key, Posture: p})
		}
	}
	return out
}

func (r chance) what() api.What {
	switch kind := max(1, r.Intn(12)-2); kind {
	case api.WhatUser:
		return what(kind, pick(r, words("ann bob cid zed")))
	case api.WhatGroup:
		return what(kind, pick(r, words("a b c")))
	case api.WhatTag:
		return what(kind, pick(r, words("db ops web zed")))
	case api.WhatNode:
		return what(kind, pick(r, words("n1 n2 n3 n4 zed")))
	case api.WhatHost:
		return what(kind, pick(r, words("h i")))
	case api.WhatNet:
		return api.What{Kind: kind, Net: pick(r, somePrefixes)}
	default:
		return what(kind, "")
	}
}

func (r chance) target(proto int) api.Target {
	t := api.Target{What: r.what(), Ports: api.Ports{To: api.MaxPort}}
	if r.Intn(3) == 0 {
		t.What = what(api.WhatSelf, "")
	}
	if r.Intn(3) > 0 && (proto == 0 || proto == 6 || proto == 17) {
		t.Ports = pick(r, somePorts)
	}
	return t
}

func (r chance) grant() api.Grant {
	g := api.Grant{Proto: pick(r, []int{0, 0, 1, 2, 6, 6, 17, 47})}
	g.Src = repeat(1+r.Intn(2), func(int) api.What { return r.what() })
	g.Dst = repeat(1+r.Intn(2), func(int) api.Target { return r.target(g.Proto) })
	if r.Intn(4) == 0 {
		g.Postures = append(r.some("o p"), "q")
	}
	return g
}

func (r chance) flow() api.Flow {
	all := flows(pick(r, someAddrs[:8]), pick(r, someAddrs[:8]))
	if r.Intn(3) == 0 {
		all = flows(pick(r, someAddrs[8:]), pick(r, someAddrs[8:]))
	}
	f := pick(r, all)
	if f.Proto == 6 || f.Proto == 17 {
		f.FromPort = r.Intn(api.MaxPort + 1)
	}
	return f
}

func (r chance) policy() api.Policy {
	p := api.Policy{Groups: []api.Group{{Name: "a", Members: r.some("ann bob @b @c")}, {Name: "b", Members: r.some("cid @c zed")}, {Name: "c", Members: r.some("ann cid")}}}
	p.Hosts = []api.Host{{Name: "h", Net: pick(r, somePrefixes)}, {Name: "i", Net: pick(r, somePrefixes)}}
	p.Grants = repeat(r.Intn(5), func(int) api.Grant { return r.grant() })
	p.Tests = repeat(r.Intn(5), func(int) api.Test { return api.Test{Flow: r.flow(), Accept: r.Intn(2) == 0} })
	return p
}

func (r chance) scene() api.Scene {
	s := api.Scene{Nodes: r.nodes(), Policy: r.policy()}
	s.Facts = r.facts(s.Nodes)
	return s
}

// like is a scene that says often the same as another one.
func (r chance) like(s api.Scene) api.Scene {
	s.Policy.Grants = slices.Clone(s.Policy.Grants)
	if r.Intn(4) == 0 {
		s.Nodes = slices.Clone(s.Nodes)
		for i := range s.Nodes {
			if s.Nodes[i].User != "" && r.Intn(3) == 0 {
				s.Nodes[i].User = pick(r, words("ann bob cid"))
			}
		}
	}
	if r.Intn(4) == 0 {
		s.Facts = r.facts(s.Nodes)
	}
	if n := len(s.Policy.Grants); n > 0 {
		i := r.Intn(n)
		switch r.Intn(6) {
		case 0:
			s.Policy.Grants = append(s.Policy.Grants[:i], s.Policy.Grants[i+1:]...)
		case 1:
			s.Policy.Grants[i] = r.grant()
		case 2:
			s.Policy.Grants = r.split(s.Policy.Grants, i)
		}
	}
	r.Shuffle(len(s.Policy.Grants), func(i, k int) {
		s.Policy.Grants[i], s.Policy.Grants[k] = s.Policy.Grants[k], s.Policy.Grants[i]
	})
	if len(s.Policy.Grants) > 4 {
		s.Policy.Grants = s.Policy.Grants[:4]
	}
	return s
}

// split makes two grants of one: one for a part of it.
func (r chance) split(l []api.Grant, i int) []api.Grant {
	part := l[i]
	switch r.Intn(3) {
	case 0:
		part.Src = part.Src[:1]
	case 1:
		part.Dst = part.Dst[:1]
	case 2:
		part.Proto = api.ProtoTcp
	}
	if rule.CheckPolicy(api.Policy{Grants: []api.Grant{{Src: []api.What{what(api.WhatAll, "")}, Dst: part.Dst, Proto: part.Proto}}}) == api.ErrRule {
		return l
	}
	return append(l, part)
}
