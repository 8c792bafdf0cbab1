package filter_test

import (
	"fmt"
	"math/rand"
	"reflect"
	"slices"
	"strings"
	"testing"

	"holloway/addr"
	"holloway/api"
	"holloway/filter"
	"holloway/rule"
)

// is compares two values by what is shown of them, so that nil and empty lists are the same (Z5).
func is(t *testing.T, name string, got, want any) {
	t.Helper()
	if reflect.DeepEqual(got, want) {
		return
	}
	if g, w := fmt.Sprintf("%+v", got), fmt.Sprintf("%+v", want); g != w {
		t.Errorf("%s: got %s, want %s", name, g, w)
	}
}

// all makes one value of the results of a call.
func all(results ...any) []any { return results }

// words are those of a string with blanks between.
func words(s string) []string { return strings.Fields(s) }

// repeat makes a list of n parts.
func repeat[T any](n int, part func(i int) T) []T {
	var out []T
	for i := range n {
		out = append(out, part(i))
	}
	return out
}

// key is a key for a number; they rise.
func key(i int) string { return fmt.Sprintf("k%04d", i) }

// lines makes a text of lines with `; ` between.
func lines(s string) string {
	if s == "" {
		return ""
	}
	return strings.ReplaceAll(s, "; ", "\n") + "\n"
}

// ip reads an address for a test; it stops the test if there is none.
func ip(s string) api.Addr {
	a, e := addr.Loose(s)
	if e != api.OK {
		panic(s)
	}
	return a
}

func ips(s string) []api.Addr {
	var out []api.Addr
	for _, x := range words(s) {
		out = append(out, ip(x))
	}
	return out
}

// net reads a prefix for a test; it stops the test if there is none.
func net(s string) api.Prefix {
	p, e := addr.ParsePrefix(s)
	if e != api.OK {
		panic(s)
	}
	return p
}

// nets reads prefixes with blanks between.
func nets(s string) []api.Prefix {
	var out []api.Prefix
	for _, x := range words(s) {
		out = append(out, net(x))
	}
	return out
}

// apart are n prefixes that make a set of n.
func apart(n int) []api.Prefix {
	return repeat(n, func(i int) api.Prefix { return api.Prefix{Addr: api.Addr{Lo: uint64(2 * i)}, Bits: 32} })
}

// apartPorts are n ranges that make a least list.
func apartPorts(n int) []api.Ports {
	return repeat(n, func(i int) api.Ports { return api.Ports{From: 2 * i, To: 2 * i} })
}

func ports(from, to int) []api.Ports { return []api.Ports{{From: from, To: to}} }

var allPorts = ports(0, api.MaxPort)

// nodes makes nodes of lines with a key, the user or # and tags, addresses, and routes.
func nodes(s string) []api.Node {
	var out []api.Node
	for line := range strings.Lines(lines(s)) {
		w := words(line)
		n := api.Node{Key: w[0], Name: w[0], User: w[1]}
		if tags, ok := strings.CutPrefix(w[1], "#"); ok {
			n.User, n.Tags = "", strings.Split(tags, ",")
		}
		for _, a := range w[2:] {
			if strings.Contains(a, "/") {
				n.Routes = append(n.Routes, net(a))
			} else {
				n.Addrs = append(n.Addrs, ip(a))
			}
		}
		out = append(out, n)
	}
	return out
}

// facts makes facts of a string with NODE/POSTURE and blanks between.
func facts(s string) []api.Fact {
	var out []api.Fact
	for _, x := range words(s) {
		node, posture, _ := strings.Cut(x, "/")
		out = append(out, api.Fact{Node: node, Posture: posture})
	}
	return out
}

// scene makes a scene of lines for its nodes and its policy, and of facts; it stops the test if the policy is wrong.
func scene(who, what, known string) api.Scene {
	p, _, e := rule.Read(lines(what))
	if e != api.OK {
		panic(what)
	}
	return api.Scene{Nodes: nodes(who), Policy: p, Facts: facts(known)}
}

// rows reads rows of lines for a test; it stops the test if they are wrong.
func rows(s string) []api.Filter {
	l, _, e := filter.Read(lines(s))
	if e != api.OK {
		panic(s)
	}
	return l
}

// shownRows are rows as lines.
func shownRows(l []api.Filter) string {
	s, _ := filter.Text(l)
	return s
}

// flow makes a flow of its protocol, its addresses and ToPort.
func flow(proto int, from, to string, port int) api.Flow {
	return api.Flow{Proto: proto, From: ip(from), To: ip(to), ToPort: port}
}

// chance makes random values.
type chance struct{ *rand.Rand }

func newChance(seed int64) chance { return chance{rand.New(rand.NewSource(seed))} }

func pick[T any](r chance, l []T) T { return l[r.Intn(len(l))] }

// some are some of a list, in its order.
func some[T any](r chance, l []T) []T {
	var out []T
	for _, x := range l {
		if r.Intn(3) == 0 {
			out = append(out, x)
		}
	}
	return out
}

// What random rows and scenes are made of, and where what is decided can change.
var (
	someNets  = nets("0.0.0.0/0 10.0.0.0/30 10.0.0.4/31 10.0.0.6/32 10.0.0.7/32 10.0.0.0/31 10.0.0.2/32 10.0.0.3/32 ::/0 fd00::/127 fd00::2/128 fd00::3/128")
	somePorts = []api.Ports{{From: 80, To: 80}, {From: 80, To: 90}, {From: 91, To: 99}, {}, {From: 65_535, To: 65_535}, {From: 0, To: 79}, {From: 81, To: 65_535}, {To: 65_535}}
	someAddrs = ips("10.0.0.0 10.0.0.1 10.0.0.2 10.0.0.3 10.0.0.4 10.0.0.5 10.0.0.6 10.0.0.7 fd00:: fd00::1 fd00::2 fd00::3")
	eachAddr  = append(ips("0.0.0.0 9.255.255.255 10.0.0.8 255.255.255.255 :: fd00::4 ffff::"), someAddrs...)
	eachPort  = []int{0, 1, 79, 80, 81, 90, 91, 99, 100, 65_534, 65_535}
	eachProto = []int{1, 2, 6, 17, 47}
)

// flows are flows between all addresses, with all ports where what is decided can change.
func flows() []api.Flow {
	var out []api.Flow
	for _, from := range eachAddr {
		for _, to := range eachAddr {
			for _, proto := range eachProto {
				for _, port := range eachPort {
					if from.Six == to.Six && (port == 0 || proto == 6 || proto == 17) {
						out = append(out, api.Flow{Proto: proto, From: from, To: to, ToPort: port})
					}
				}
			}
		}
	}
	return out
}

// set is a random set that is not empty.
func (r chance) set() []api.Prefix {
	for {
		if s, _ := addr.Least(some(r, someNets[1:])); len(s) > 0 && r.Intn(8) > 0 {
			return s
		}
		return []api.Prefix{pick(r, someNets)}
	}
}

func (r chance) ports() []api.Ports {
	l, _ := filter.LeastPorts(append(some(r, somePorts[:7]), pick(r, somePorts)))
	return l
}

// row is a random row; few rows have all their parts of their own.
func (r chance) row() api.Filter {
	f := api.Filter{Proto: pick(r, []int{0, 0, 6, 6, 6, 17, 1, 2}), Src: r.set(), Dst: r.set(), Ports: r.ports()}
	if f.Proto == 1 || f.Proto == 2 || r.Intn(3) == 0 {
		f.Ports = slices.Clone(allPorts)
	}
	return f
}

// like is a row that differs from another one mostly in one part.
func (r chance) like(x api.Filter) api.Filter {
	f := x
	switch other := r.row(); r.Intn(7) {
	case 0:
		f.Src = other.Src
	case 1:
		f.Dst = other.Dst
	case 2:
		f.Src, f.Dst = other.Src, other.Dst
	case 3:
		f.Proto, f.Ports = other.Proto, other.Ports
	default:
		if f.Proto == 0 || f.Proto == 6 || f.Proto == 17 {
			f.Ports = r.ports()
		}
	}
	f.Src, f.Dst, f.Ports = slices.Clone(f.Src), slices.Clone(f.Dst), slices.Clone(f.Ports)
	return f
}

// rows are some random rows.
func (r chance) rows(n int) []api.Filter {
	var out []api.Filter
	for range n {
		if len(out) > 0 && r.Intn(4) > 0 {
			out = append(out, r.like(pick(r, out)))
		} else {
			out = append(out, r.row())
		}
	}
	return out
}

func (r chance) nodes() []api.Node {
	free := slices.Clone(someAddrs)
	r.Shuffle(len(free), func(i, k int) { free[i], free[k] = free[k], free[i] })
	var out []api.Node
	for _, x := range words("n1 n2 n3 n4 n5 n6") {
		n := api.Node{Key: x, Name: x, User: pick(r, words("ann ann bob cid")), Routes: some(r, someNets)}
		if r.Intn(3) == 0 {
			n.User, n.Tags = "", append(some(r, words("db ops")), "web")
		}
		k := min(r.Intn(4), len(free))
		n.Addrs, free = free[:k:k], free[k:]
		out = append(out, n)
	}
	return out
}

func (r chance) what() api.What {
	kind := 1 + r.Intn(9)
	w := api.What{Kind: kind}
	switch kind {
	case api.WhatUser:
		w.Name = pick(r, words("ann bob cid zed"))
	case api.WhatGroup:
		w.Name = pick(r, words("a b"))
	case api.WhatTag:
		w.Name = pick(r, words("db ops web zed"))
	case api.WhatNode:
		w.Name = pick(r, words("n1 n2 n3 n4 zed"))
	case api.WhatHost:
		w.Name = pick(r, words("h i"))
	case api.WhatNet:
		w.Net = pick(r, someNets)
	}
	return w
}

func (r chance) grant() api.Grant {
	g := api.Grant{Proto: pick(r, []int{0, 0, 1, 2, 6, 6, 17})}
	g.Src = repeat(1+r.Intn(3), func(int) api.What { return r.what() })
	g.Dst = repeat(1+r.Intn(3), func(int) api.Target {
		t := api.Target{What: r.what(), Ports: api.Ports{To: api.MaxPort}}
		if r.Intn(3) == 0 {
			t.What = api.What{Kind: api.WhatSelf}
		}
		if g.Proto != 1 && g.Proto != 2 {
			t.Ports = pick(r, somePorts)
		}
		return t
	})
	if r.Intn(4) == 0 {
		g.Postures = append(some(r, words("o p")), "q")
	}
	return g
}

func (r chance) scene() api.Scene {
	p := api.Policy{Groups: []api.Group{{Name: "a", Members: append(some(r, words("ann bob")), "@b")}, {Name: "b", Members: some(r, words("ann cid"))}}}
	p.Hosts = []api.Host{{Name: "h", Net: pick(r, someNets)}, {Name: "i", Net: pick(r, someNets)}}
	p.Grants = repeat(r.Intn(5), func(int) api.Grant { return r.grant() })
	s := api.Scene{Nodes: r.nodes(), Policy: p}
	for _, n := range s.Nodes {
		for _, posture := range some(r, words("p q")) {
			s.Facts = append(s.Facts, api.Fact{Node: n.Key, Posture: posture})
		}
	}
	return s
}

// packet is a random packet; its payload is short.
func (r chance) packet() api.Packet {
	l := someAddrs[:8]
	if r.Intn(2) == 0 {
		l = someAddrs[8:]
	}
	p := api.Packet{From: pick(r, l), To: pick(r, l), Hops: r.Intn(256), Proto: pick(r, []int{api.ProtoIcmp, api.ProtoTcp, api.ProtoUdp})}
	flag := func() bool { return r.Intn(3) == 0 }
	if p.Proto != api.ProtoIcmp {
		p.FromPort, p.ToPort = r.Intn(1<<16), r.Intn(1<<16)
	}
	switch p.Proto {
	case api.ProtoTcp:
		p.Syn, p.Fin, p.Rst, p.Has, p.Seq = flag(), flag(), flag(), flag(), r.Intn(1<<32)
		if p.Has {
			p.Ack = r.Intn(1 << 32)
		}
	case api.ProtoIcmp:
		p.Reply, p.Id, p.Seq = flag(), r.Intn(1<<16), r.Intn(1<<16)
	}
	p.Payload = make([]byte, r.Intn(20))
	r.Read(p.Payload)
	return p
}
