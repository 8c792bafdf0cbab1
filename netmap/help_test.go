package netmap_test

import (
	"cmp"
	"fmt"
	"math/rand"
	"reflect"
	"slices"
	"strings"
	"testing"

	"holloway/addr"
	"holloway/api"
	"holloway/filter"
	"holloway/rule"
)

// is compares two values by what is shown of them, so that nil and empty lists are the same (Z5).
func is(t *testing.T, name string, got, want any) {
	t.Helper()
	if reflect.DeepEqual(got, want) {
		return
	}
	if g, w := fmt.Sprintf("%+v", got), fmt.Sprintf("%+v", want); g != w {
		t.Errorf("%s: got %s, want %s", name, g, w)
	}
}

// all makes one value of the results of a call.
func all(results ...any) []any { return results }

// words are those of a string with blanks between.
func words(s string) []string { return strings.Fields(s) }

// repeat makes a list of n parts.
func repeat[T any](n int, part func(i int) T) []T {
	var out []T
	for i := range n {
		out = append(out, part(i))
	}
	return out
}

// key is a key for a number; they rise.
func key(i int) string { return fmt.Sprintf("k%04d", i) }

// lines makes a text of lines with `; ` between.
func lines(s string) string {
	if s == "" {
		return ""
	}
	return strings.ReplaceAll(s, "; ", "\n") + "\n"
}

// ip reads an address for a test; it stops the test if there is none.
func ip(s string) api.Addr {
	a, e := addr.Loose(s)
	if e != api.OK {
		panic(s)
	}
	return a
}

// net reads a prefix for a test; it stops the test if there is none.
func net(s string) api.Prefix {
	p, e := addr.ParsePrefix(s)
	if e != api.OK {
		panic(s)
	}
	return p
}

func ips(s string) []api.Addr {
	return repeat(len(words(s)), func(i int) api.Addr { return ip(words(s)[i]) })
}

func nets(s string) []api.Prefix {
	return repeat(len(words(s)), func(i int) api.Prefix { return net(words(s)[i]) })
}

// part makes addresses and prefixes of words.
func part(w []string) (addrs []api.Addr, routes []api.Prefix) {
	for _, x := range w {
		if strings.Contains(x, "/") {
			routes = append(routes, net(x))
		} else {
			addrs = append(addrs, ip(x))
		}
	}
	return addrs, routes
}

// node makes a node of a key, a name, the user or # and tags, addresses, and routes.
func node(s string) api.Node {
	w := words(s)
	n := api.Node{Key: w[0], Name: w[1], User: w[2]}
	if tags, ok := strings.CutPrefix(w[2], "#"); ok {
		n.User, n.Tags = "", strings.Split(tags, ",")
	}
	n.Addrs, n.Routes = part(w[3:])
	return n
}

// peers makes peers with `; ` between: a key, a name, addresses, and routes each.
func peers(s string) []api.Peer {
	var out []api.Peer
	for line := range strings.Lines(lines(s)) {
		w := words(line)
		p := api.Peer{Key: w[0], Name: w[1]}
		p.Addrs, p.Routes = part(w[2:])
		out = append(out, p)
	}
	return out
}

// rows reads rows for a test; it stops the test if they are wrong.
func rows(s string) []api.Filter {
	l, _, e := filter.Read(lines(s))
	if e != api.OK {
		panic(s)
	}
	return l
}

// told makes a map of a node, peers and rows.
func told(self, others, in string) api.Map {
	return api.Map{Self: node(self), Peers: peers(others), Filters: rows(in), Suffix: "corp.net"}
}

// world makes a world of lines for its nodes, of a policy, of facts (NODE/POSTURE) and of firsts (NODE=PREFIX); it stops the test if the policy is wrong.
func world(who, policy, known, leads string) api.World {
	p, _, e := rule.Read(lines(policy))
	if e != api.OK {
		panic(policy)
	}
	w := api.World{Scene: api.Scene{Policy: p}, Suffix: "corp.net"}
	for line := range strings.Lines(lines(who)) {
		w.Scene.Nodes = append(w.Scene.Nodes, node(line))
	}
	for _, x := range words(known) {
		n, posture, _ := strings.Cut(x, "/")
		w.Scene.Facts = append(w.Scene.Facts, api.Fact{Node: n, Posture: posture})
	}
	for _, x := range words(leads) {
		n, prefix, _ := strings.Cut(x, "=")
		w.Firsts = append(w.Firsts, api.First{Prefix: net(prefix), Node: n})
	}
	return w
}

// A fault makes a value wrong.
type fault[T any] struct {
	name string
	do   func(x *T)
	e    api.Errno
}

// inOrder holds that each fault has its error, by itself and ahead of each one behind it.
func inOrder[T any](t *testing.T, right func() T, check func(x T) api.Errno, faults []fault[T]) {
	t.Helper()
	is(t, "right", check(right()), api.OK)
	for i, f := range faults {
		x := right()
		f.do(&x)
		is(t, f.name, check(x), f.e)
		for _, g := range faults[i+1:] {
			x := right()
			g.do(&x)
			f.do(&x)
			is(t, f.name+", ahead of "+g.name, check(x), f.e)
		}
	}
}

// chance makes random values.
type chance struct{ *rand.Rand }

func newChance(seed int64) chance { return chance{rand.New(rand.NewSource(seed))} }

func pick[T any](r chance, l []T) T { return l[r.Intn(len(l))] }

// some are some of a list, in its order.
func some[T any](r chance, l []T) []T {
	var out []T
	for _, x := range l {
		if r.Intn(3) == 0 {
			out = append(out, x)
		}
	}
	return out
}

// What random worlds and maps are made of (the prefixes rise), and where what is decided can change.
var (
	someKeys  = words("n1 n2 n3 n4 n5 n6")
	someNames = words("box mac n1 n3")
	someNets  = nets("0.0.0.0/0 10.0.0.0/29 10.0.0.0/30 10.0.0.2/31 10.0.0.3/32 10.0.0.4/30 10.0.0.6/32 ::/0 fd00::/126 fd00::1/128 fd00::2/127")
	someAddrs = ips("10.0.0.0 10.0.0.1 10.0.0.2 10.0.0.3 10.0.0.4 10.0.0.5 10.0.0.6 10.0.0.7 fd00:: fd00::1 fd00::2 fd00::3")
	eachAddr  = append(ips("0.0.0.0 9.255.255.255 10.0.0.8 255.255.255.255 :: fd00::4 ffff::"), someAddrs...)
	someWhats = words("* user:ann user:bob user:zed group:a group:b tag:db tag:web node:n1 node:n2 node:n3 node:zed host:h host:i net:10.0.0.4/31 net:10.0.0.6/32 net:fd00::2/127 member tagged")
	someRows  = rows("6 10.0.0.0/8 10.0.0.1/32 80; any ::/0 fd00::1/128 0-65535; 17 10.0.0.2/32,fd00::/8 10.0.0.1/32 5,7-9; 1 10.0.0.0/8 10.0.0.0/8 0-65535")
)

// deal gives a few addresses of a list, which are taken out of it.
func (r chance) deal(free *[]api.Addr) []api.Addr {
	k := min(r.Intn(4), len(*free))
	out := slices.Clone((*free)[:k])
	*free = (*free)[k:]
	return out
}

// shuffled are the addresses of random values, in any order.
func (r chance) shuffled() *[]api.Addr {
	out := slices.Clone(someAddrs)
	r.Shuffle(len(out), func(i, k int) { out[i], out[k] = out[k], out[i] })
	return &out
}

func (r chance) node(key string, free *[]api.Addr) api.Node {
	n := api.Node{Key: key, Name: pick(r, someNames), User: pick(r, words("ann ann bob cid")), Addrs: r.deal(free), Routes: some(r, someNets)}
	if r.Intn(3) == 0 {
		n.User, n.Tags = "", append(some(r, words("db ops")), "web")
	}
	r.Shuffle(len(n.Routes), func(i, k int) { n.Routes[i], n.Routes[k] = n.Routes[k], n.Routes[i] })
	return n
}

// grant is a random line of a policy.
func (r chance) grant() string {
	proto := pick(r, words("- - 1 6 6 17"))
	src := repeat(1+r.Intn(2), func(int) string { return pick(r, someWhats) })
	dst := repeat(1+r.Intn(2), func(int) string {
		what := pick(r, append(slices.Clone(someWhats), "self", "self", "self"))
		if proto != "1" {
			what += pick(r, []string{"", ";80", ";0", ";80-90", ";65535"})
		}
		return what
	})
	line := "allow " + strings.Join(src, ",") + " -> " + strings.Join(dst, ",")
	if proto != "-" {
		line += " proto " + proto
	}
	if r.Intn(4) == 0 {
		line += " if " + pick(r, words("p q p,q"))
	}
	return line
}

// world is a random world.
func (r chance) world() api.World {
	text := []string{"group a ann @b", "group b cid", "host h 10.0.0.0/30", "host i fd00::/126"}
	for range r.Intn(5) {
		text = append(text, r.grant())
	}
	text = append(text, "accept 6 10.0.0.1 10.0.0.2 0 80", "deny 1 fd00::1 fd00::2 0 0")
	w := world("", strings.Join(text, "; "), "", "")
	w.Suffix = pick(r, words("corp.net corp.net x"))
	free := r.shuffled()
	for _, key := range someKeys {
		if r.Intn(5) > 0 {
			w.Scene.Nodes = append(w.Scene.Nodes, r.node(key, free))
		}
	}
	for _, n := range w.Scene.Nodes {
		for _, posture := range some(r, words("p q")) {
			w.Scene.Facts = append(w.Scene.Facts, api.Fact{Node: n.Key, Posture: posture})
		}
	}
	for _, p := range someNets {
		for _, n := range w.Scene.Nodes {
			k := len(w.Firsts)
			if slices.Contains(n.Routes, p) && (k == 0 || w.Firsts[k-1].Prefix != p) && r.Intn(2) == 0 {
				w.Firsts = append(w.Firsts, api.First{Prefix: p, Node: n.Key})
			}
		}
	}
	return w
}

func (r chance) peer(key string) api.Peer {
	return api.Peer{Key: key, Name: pick(r, someNames), Addrs: r.deal(r.shuffled()), Routes: some(r, someNets)}
}

// told is a random map.
func (r chance) told() api.Map {
	m := api.Map{Self: r.node(pick(r, someKeys), r.shuffled()), Filters: some(r, someRows), Suffix: pick(r, words("corp.net x"))}
	for _, key := range someKeys {
		if key != m.Self.Key && r.Intn(2) == 0 {
			m.Peers = append(m.Peers, r.peer(key))
		}
	}
	return own(m)
}

// like is a map that differs from another one in a few parts.
func (r chance) like(m api.Map) api.Map {
	other := r.told()
	out := own(m)
	if r.Intn(3) == 0 {
		out.Filters = other.Filters
	}
	if r.Intn(3) == 0 {
		out.Suffix = other.Suffix
	}
	if r.Intn(3) == 0 && !slices.ContainsFunc(out.Peers, func(p api.Peer) bool { return p.Key == other.Self.Key }) {
		out.Self = other.Self
	}
	for _, p := range other.Peers {
		i := slices.IndexFunc(out.Peers, func(q api.Peer) bool { return q.Key == p.Key })
		switch {
		case p.Key == out.Self.Key || r.Intn(2) == 0:
		case i < 0:
			out.Peers = append(out.Peers, p)
		case r.Intn(2) == 0:
			out.Peers[i] = p
		default:
			out.Peers = slices.Delete(out.Peers, i, i+1)
		}
	}
	slices.SortFunc(out.Peers, func(x, y api.Peer) int { return cmp.Compare(x.Key, y.Key) })
	return out
}

// own is a value in memory of its own, whose lists have nothing behind their lengths, and are nil if they are empty.
func own[T any](x T) T { return ownValue(reflect.ValueOf(x)).Interface().(T) }

func ownValue(v reflect.Value) reflect.Value {
	out := reflect.New(v.Type()).Elem()
	switch v.Kind() {
	case reflect.Slice:
		if v.Len() > 0 {
			out.Set(reflect.MakeSlice(v.Type(), v.Len(), v.Len()))
		}
		for i := range v.Len() {
			out.Index(i).Set(ownValue(v.Index(i)))
		}
	case reflect.Struct:
		for i := range v.NumField() {
			out.Field(i).Set(ownValue(v.Field(i)))
		}
	default:
		out.Set(v)
	}
	return out
}

// equal says whether two values are equal, empty lists as nil.
func equal(x, y any) bool { return reflect.DeepEqual(own(x), own(y)) }
