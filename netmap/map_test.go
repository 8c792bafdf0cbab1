package netmap_test

import (
	"fmt"
	"reflect"
	"slices"
	"testing"

	"holloway/addr"
	"holloway/api"
	"holloway/netmap"
)

// rightMap is a map in which each part can be made wrong.
func rightMap() api.Map {
	return told("m mac ann 10.0.0.1 10.0.0.2 10.0.0.0/8 11.0.0.0/8", "c pad 10.0.0.1 fd00::1 10.0.0.0/8 10.0.0.0/9 fd00::/8; x box; z box 10.0.0.1", "6 10.0.0.0/8 10.0.0.1/32 80; any 10.0.0.0/8 10.0.0.1/32 7")
}

// peerFaults are what can be wrong with the peers of rightMap, whoever it is for.
func peerFaults() []fault[[]api.Peer] {
	return []fault[[]api.Peer]{
		{"too many peers", func(l *[]api.Peer) { *l = make([]api.Peer, api.MaxPeers+1) }, api.ErrLarge},
		{"the first key", func(l *[]api.Peer) { (*l)[0].Key = "A" }, api.ErrName},
		{"the first name", func(l *[]api.Peer) { (*l)[0].Name = "" }, api.ErrName},
		{"too many addresses", func(l *[]api.Peer) { (*l)[0].Addrs = make([]api.Addr, api.MaxAddrs+1) }, api.ErrLarge},
		{"the first address", func(l *[]api.Peer) { (*l)[0].Addrs[0].Hi = 1 }, api.ErrForm},
		{"the first address again", func(l *[]api.Peer) { (*l)[0].Addrs = append(ips("10.0.0.1 10.0.0.1"), api.Addr{Hi: 1}) }, api.ErrTwice},
		{"the second address", func(l *[]api.Peer) { (*l)[0].Addrs[1] = api.Addr{Lo: 1 << 32} }, api.ErrForm},
		{"too many routes", func(l *[]api.Peer) { (*l)[0].Routes = make([]api.Prefix, api.MaxFirsts+1) }, api.ErrLarge},
		{"the first route", func(l *[]api.Peer) { (*l)[0].Routes[0].Bits = 33 }, api.ErrArg},
		{"the form of the second route", func(l *[]api.Peer) { (*l)[0].Routes[1] = api.Prefix{Addr: api.Addr{Lo: 1}} }, api.ErrForm},
		{"a route again", func(l *[]api.Peer) { (*l)[0].Routes[1].Bits = 8 }, api.ErrOrder},
		{"a route with fewer bits", func(l *[]api.Peer) { (*l)[0].Routes[1].Bits = 7 }, api.ErrOrder},
		{"a route of lower addresses", func(l *[]api.Peer) { (*l)[0].Routes[2] = net("0.0.0.0/32") }, api.ErrOrder},
		{"the second key", func(l *[]api.Peer) { (*l)[1].Key = "" }, api.ErrName},
		{"the second name", func(l *[]api.Peer) { (*l)[1].Name = "box.a" }, api.ErrName},
		{"a key again", func(l *[]api.Peer) { (*l)[1].Key = "c" }, api.ErrOrder},
		{"a lower key", func(l *[]api.Peer) { (*l)[1].Key = "a" }, api.ErrOrder},
		{"the last key", func(l *[]api.Peer) { (*l)[2].Key = "Z" }, api.ErrName},
		{"the last address", func(l *[]api.Peer) { (*l)[2].Addrs[0].Hi = 1 }, api.ErrForm},
	}
}

// selfFaults are what can be wrong with the node of rightMap.
func selfFaults() []fault[api.Node] {
	return []fault[api.Node]{
		{"Key", func(n *api.Node) { n.Key = "A" }, api.ErrName},
		{"Name", func(n *api.Node) { n.Name = "" }, api.ErrName},
		{"User", func(n *api.Node) { n.User = "-" }, api.ErrName},
		{"too many tags", func(n *api.Node) { n.Tags = make([]string, api.MaxTags+1) }, api.ErrLarge},
		{"no tag", func(n *api.Node) { n.Tags = words("a B") }, api.ErrName},
		{"a tag again", func(n *api.Node) { n.Tags = words("a a") }, api.ErrOrder},
		{"nobody", func(n *api.Node) { n.User, n.Tags = "", nil }, api.ErrForm},
		{"a user and tags", func(n *api.Node) { n.User, n.Tags = "ann", words("a b") }, api.ErrForm},
		{"too many addresses", func(n *api.Node) { n.Addrs = make([]api.Addr, api.MaxAddrs+1) }, api.ErrLarge},
		{"no address", func(n *api.Node) { n.Addrs[0].Hi = 1 }, api.ErrForm},
		{"an address again", func(n *api.Node) { n.Addrs[1] = n.Addrs[0] }, api.ErrTwice},
		{"too many routes", func(n *api.Node) { n.Routes = make([]api.Prefix, api.MaxRoutes+1) }, api.ErrLarge},
		{"no route", func(n *api.Node) { n.Routes[0].Bits = 33 }, api.ErrArg},
		{"a route again", func(n *api.Node) { n.Routes[1] = n.Routes[0] }, api.ErrTwice},
	}
}

// rowFaults are what can be wrong with the rows of rightMap.
func rowFaults() []fault[[]api.Filter] {
	return []fault[[]api.Filter]{
		{"too many rows", func(l *[]api.Filter) { *l = make([]api.Filter, api.MaxFilters+1) }, api.ErrLarge},
		{"a protocol", func(l *[]api.Filter) { (*l)[0].Proto = 256 }, api.ErrArg},
		{"a row", func(l *[]api.Filter) { (*l)[1].Ports = nil }, api.ErrForm},
	}
}

// within are the faults of a part of a value.
func within[T, U any](name string, part func(x *T) *U, faults []fault[U]) []fault[T] {
	return repeat(len(faults), func(i int) fault[T] {
		return fault[T]{name: name + faults[i].name, do: func(x *T) { faults[i].do(part(x)) }, e: faults[i].e}
	})
}

// P8.2, Z4
func TestCheckMap(t *testing.T) {
	others := within("", func(m *api.Map) *[]api.Peer { return &m.Peers }, peerFaults())
	faults := slices.Concat(
		within("self: ", func(m *api.Map) *api.Node { return &m.Self }, selfFaults()),
		others[:3],
		[]fault[api.Map]{{"the node itself, first", func(m *api.Map) { m.Peers[0].Key = "m" }, api.ErrTwice}},
		others[3:15],
		others[15:17],
		[]fault[api.Map]{{"the node itself", func(m *api.Map) { m.Peers[1].Key = "m" }, api.ErrTwice}},
		others[17:],
		within("", func(m *api.Map) *[]api.Filter { return &m.Filters }, rowFaults()),
		[]fault[api.Map]{{"no suffix", func(m *api.Map) { m.Suffix = "a..b" }, api.ErrForm}},
	)
	inOrder(t, rightMap, netmap.CheckMap, faults)
	// Each function with maps tells it first, of each map.
	for _, f := range faults {
		m := rightMap()
		f.do(&m)
		is(t, "Same", all(netmap.Same(m, api.Map{})), all(false, f.e))
		is(t, "Same", all(netmap.Same(rightMap(), m)), all(false, f.e))
		is(t, "Between", all(netmap.Between(m, api.Map{})), all(api.Patch{}, f.e))
		is(t, "Between", all(netmap.Between(rightMap(), m)), all(api.Patch{}, f.e))
		is(t, "Apply", all(netmap.Apply(m, api.Patch{Gone: words("A")})), all(api.Map{}, f.e))
		is(t, "Lookup", all(netmap.Lookup(m, "pad")), all([]api.Addr{}, f.e))
		is(t, "Lookup", all(netmap.Lookup(m, "none")), all([]api.Addr{}, f.e))
		is(t, "Way", all(netmap.Way(m, api.Addr{Hi: 1})), all("", false, f.e))
		is(t, "Text", all(netmap.Text(m)), all("", f.e))
		is(t, "Digest", all(netmap.Digest(m)), all("", f.e))
		is(t, "Take", all(netmap.Take(m, 0, api.Update{Patch: api.Patch{Gone: words("A")}})), all(api.Map{}, 0, f.e))
		is(t, "Take", all(netmap.Take(api.Map{}, 0, api.Update{Whole: true, Map: m})), all(api.Map{}, 0, f.e))
	}
}

// P8.2: what is right
func TestRightMaps(t *testing.T) {
	m := rightMap()
	m.Peers = repeat(api.MaxPeers, func(i int) api.Peer { return api.Peer{Key: key(i), Name: "x"} })
	m.Peers[7].Routes = repeat(api.MaxFirsts, func(i int) api.Prefix { return api.Prefix{Addr: api.Addr{Lo: uint64(i)}, Bits: 32} })
	m.Peers[7].Addrs = ips("10.0.0.1 10.0.0.2 fd00::1 fd00::2")
	m.Filters = slices.Repeat(m.Filters[:1], api.MaxFilters)
	is(t, "full", netmap.CheckMap(m), api.OK)
	is(t, "little", netmap.CheckMap(api.Map{Self: node("a a ann"), Suffix: "x"}), api.OK)
	is(t, "nothing", netmap.CheckMap(api.Map{}), api.ErrName)
	is(t, "addresses that others have", netmap.CheckMap(told("a x ann 10.0.0.1", "b x 10.0.0.1; c x 10.0.0.1", "")), api.OK)
}

// P8.2, Z5: each part of a map is looked at.
func TestSame(t *testing.T) {
	m := rightMap()
	for _, c := range []struct {
		name string
		do   func(m *api.Map)
	}{
		{"Key", func(m *api.Map) { m.Self.Key = "n" }},
		{"Name", func(m *api.Map) { m.Self.Name = "n" }},
		{"User", func(m *api.Map) { m.Self.User = "bob" }},
		{"Tags", func(m *api.Map) { m.Self.User, m.Self.Tags = "", words("a") }},
		{"Addrs", func(m *api.Map) { slices.Reverse(m.Self.Addrs) }},
		{"fewer Addrs", func(m *api.Map) { m.Self.Addrs = m.Self.Addrs[:1] }},
		{"Routes", func(m *api.Map) { slices.Reverse(m.Self.Routes) }},
		{"Key of a peer", func(m *api.Map) { m.Peers[0].Key = "d" }},
		{"Name of a peer", func(m *api.Map) { m.Peers[0].Name = "d" }},
		{"Addrs of a peer", func(m *api.Map) { slices.Reverse(m.Peers[0].Addrs) }},
		{"more Addrs of a peer", func(m *api.Map) { m.Peers[1].Addrs = ips("::") }},
		{"Routes of a peer", func(m *api.Map) { m.Peers[0].Routes = m.Peers[0].Routes[1:] }},
		{"a peer less", func(m *api.Map) { m.Peers = m.Peers[:2] }},
		{"a peer more", func(m *api.Map) { m.Peers = append(m.Peers, peers("zz a")...) }},
		{"Proto", func(m *api.Map) { m.Filters[0].Proto = 17 }},
		{"Src", func(m *api.Map) { m.Filters[0].Src = nets("10.0.0.0/9") }},
		{"Dst", func(m *api.Map) { m.Filters[0].Dst = nets("10.0.0.0/9") }},
		{"Ports", func(m *api.Map) { m.Filters[0].Ports[0].To++ }},
		{"a row less", func(m *api.Map) { m.Filters = m.Filters[:1] }},
		{"rows the other way round", func(m *api.Map) { slices.Reverse(m.Filters) }},
		{"Suffix", func(m *api.Map) { m.Suffix = "x" }},
	} {
		x := rightMap()
		is(t, "not yet "+c.name, all(netmap.Same(m, x)), all(true, api.OK))
		c.do(&x)
		is(t, c.name, all(netmap.Same(m, x)), all(false, api.OK))
		is(t, c.name, all(netmap.Same(x, m)), all(false, api.OK))
		// A patch has just what differs.
		p, e := netmap.Between(m, x)
		back, f := netmap.Apply(m, p)
		is(t, c.name, all(back, e, f), all(x, api.OK, api.OK))
		is(t, c.name, equal(p, api.Patch{}), false)
	}
	empty := api.Map{Self: api.Node{Key: "a", Name: "a", User: "ann", Tags: []string{}, Addrs: []api.Addr{}, Routes: []api.Prefix{}}, Peers: []api.Peer{}, Filters: []api.Filter{}, Suffix: "corp.net"}
	is(t, "empty lists", all(netmap.Same(empty, told("a a ann", "", ""))), all(true, api.OK))
	p, e := netmap.Between(empty, told("a a ann", "", ""))
	is(t, "empty lists", all(p, e), all(api.Patch{}, api.OK))
}

// P8.2: random maps
func TestSameOfMany(t *testing.T) {
	r := newChance(2)
	same := 0
	for range 3_000 {
		a := r.told()
		b := r.like(a)
		got, e := netmap.Same(a, b)
		is(t, "Same", all(got, e), all(reflect.DeepEqual(a, b), api.OK))
		if got {
			same++
		}
	}
	if same < 100 || same > 2_000 {
		t.Errorf("%d are equal", same)
	}
}

// P8.3
func TestLookup(t *testing.T) {
	m := told("m mac ann 10.0.0.1 fd00::1", "a pad 10.0.0.2; b mac 10.0.0.3; c corp-net 10.0.0.4; d box 10.0.0.6 10.0.0.5; x mac 10.0.0.7; y box 10.0.0.8; z none", "")
	for _, c := range []struct {
		name, addrs string
		e           api.Errno
	}{
		{"pad", "10.0.0.2", api.OK},
		{"pad.corp.net", "10.0.0.2", api.OK},
		{"mac", "10.0.0.3", api.OK},
		{"mac.corp.net", "10.0.0.3", api.OK},
		{"box", "10.0.0.6 10.0.0.5", api.OK},
		{"corp-net", "10.0.0.4", api.OK},
		{"none", "", api.OK},
		{"none.corp.net", "", api.OK},
		{"m", "", api.ErrNone},
		{"a", "", api.ErrNone},
		{"pad.", "", api.ErrNone},
		{".corp.net", "", api.ErrNone},
		{"corp.net", "", api.ErrNone},
		{"pad.corp", "", api.ErrNone},
		{"pad.corp.net.", "", api.ErrNone},
		{"padcorp.net", "", api.ErrNone},
		{"pad.corp.net.corp.net", "", api.ErrNone},
		{"Pad", "", api.ErrNone},
		{"", "", api.ErrNone},
		{"pad ", "", api.ErrNone},
	} {
		is(t, c.name, all(netmap.Lookup(m, c.name)), all(ips(c.addrs), c.e))
	}
	m.Self.Key = "aa"
	is(t, "the least key", all(netmap.Lookup(m, "mac")), all(ips("10.0.0.1 fd00::1"), api.OK))
	is(t, "alone", all(netmap.Lookup(told("m mac ann 10.0.0.1", "", ""), "mac.corp.net")), all(ips("10.0.0.1"), api.OK))
}

// P8.3, Z3
func TestWay(t *testing.T) {
	m := told("m mac ann 10.0.0.1 fd00::1 11.0.0.0/8 10.1.1.1/32", "a x 10.0.0.2 10.0.0.0/8 10.1.0.0/16; b x 10.0.0.3 10.0.0.1 10.1.0.0/16 fd00::/64; c x 10.0.0.2 10.1.2.0/24 10.1.2.3/32; z x 10.0.0.1 10.1.2.3 10.1.3.0/24", "")
	for _, c := range []struct{ addr, key string }{
		// Who has it; of several the least key.
		{"fd00::1", "m"},
		{"10.0.0.1", "b"},
		{"10.0.0.2", "a"},
		{"10.0.0.3", "b"},
		{"10.1.2.3", "z"},
		// The longest prefix; of several the least key. The node's own routes lead nowhere.
		{"10.0.0.4", "a"},
		{"10.1.1.1", "a"},
		{"10.1.2.0", "c"},
		{"10.1.2.255", "c"},
		{"10.1.3.255", "z"},
		{"10.1.4.0", "a"},
		{"10.255.255.255", "a"},
		{"fd00::2", "b"},
		{"fd00::1:0:0:0:0", ""},
		{"11.0.0.1", ""},
		{"9.255.255.255", ""},
		{"::a00:1", ""},
	} {
		is(t, c.addr, all(netmap.Way(m, ip(c.addr))), all(c.key, c.key != "", api.OK))
	}
	for _, a := range []api.Addr{{Hi: 1}, {Lo: 1 << 32}} {
		is(t, "no address", all(netmap.Way(m, a)), all("", false, api.ErrForm))
	}
	m.Peers[3].Routes = nets("0.0.0.0/0")
	is(t, "all addresses", all(netmap.Way(m, ip("11.0.0.1"))), all("z", true, api.OK))
	is(t, "all of one length", all(netmap.Way(m, ip("::1"))), all("", false, api.OK))
	m.Self.Key = "aa"
	is(t, "the least key", all(netmap.Way(m, ip("10.0.0.1"))), all("aa", true, api.OK))
}

// wayOf is the key of the node to which a packet goes: the best one of all that have the address or a prefix with it.
func wayOf(m api.Map, a api.Addr) string {
	key, best := "", 0
	offer := func(k string, bits int) {
		if bits > best || bits == best && k < key {
			key, best = k, bits
		}
	}
	const has = 1_000
	for _, p := range append([]api.Peer{{Key: m.Self.Key, Addrs: m.Self.Addrs}}, m.Peers...) {
		if slices.Contains(p.Addrs, a) {
			offer(p.Key, has)
		}
		for _, r := range p.Routes {
			if in, _ := addr.Contains(r, a); in {
				offer(p.Key, r.Bits+1)
			}
		}
	}
	return key
}

// lookupOf are the addresses of a name.
func lookupOf(m api.Map, name string) (api.Peer, bool) {
	var out api.Peer
	for _, p := range append([]api.Peer{{Key: m.Self.Key, Name: m.Self.Name, Addrs: m.Self.Addrs}}, m.Peers...) {
		if (name == p.Name || name == p.Name+"."+m.Suffix) && (out.Key == "" || p.Key < out.Key) {
			out = p
		}
	}
	return out, out.Key != ""
}

// P8.3: random maps
func TestLookupAndWayOfMany(t *testing.T) {
	r := newChance(3)
	for range 1_000 {
		m := r.told()
		for _, a := range eachAddr {
			want := wayOf(m, a)
			is(t, fmt.Sprint(m, a), all(netmap.Way(m, a)), all(want, want != "", api.OK))
		}
		for _, name := range words("box mac n1 n3 box.corp.net n3.corp.net mac.x pad") {
			p, ok := lookupOf(m, name)
			got, e := netmap.Lookup(m, name)
			is(t, name, all(got, e == api.OK), all(p.Addrs, ok))
		}
	}
}
