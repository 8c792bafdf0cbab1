package control_test

import (
	"fmt"
	"slices"
	"strings"
	"testing"

	"holloway/api"
	"holloway/control"
	"holloway/filter"
	"holloway/name"
	"holloway/netmap"
	"holloway/node"
)

// P10.3
func TestMapOf(t *testing.T) {
	b := day()
	rows, _, e := filter.Read("6 100.64.0.1/32,fd00::1/128 100.64.0.2/32 80\n")
	is(t, "rows", e, api.OK)
	lan := []api.Prefix{net("10.0.0.0/8")}
	n1 := api.Node{Key: "n1", User: "ann", Name: "mac", Addrs: ips("100.64.0.1 fd00::1")}
	n2 := api.Node{Key: "n2", User: "bob", Name: "mac", Addrs: ips("100.64.0.2"), Routes: lan}
	peer := api.Peer{Key: "n2", Name: "mac", Addrs: n2.Addrs}
	is(t, "n1 alone", all(control.MapOf(b, "n1", 8)), all(api.Map{Self: n1, Suffix: "corp.net"}, api.OK))
	is(t, "n1", all(control.MapOf(b, "n1", 9)), all(api.Map{Self: n1, Peers: []api.Peer{peer}, Suffix: "corp.net"}, api.OK))
	is(t, "n2", all(control.MapOf(b, "n2", 9)), all(api.Map{Self: n2, Peers: []api.Peer{{Key: "n1", Name: "mac", Addrs: n1.Addrs}}, Filters: rows, Suffix: "corp.net"}, api.OK))
	m := must(control.MapOf(b, "n1", 20))
	is(t, "n1 may go to the lan", m.Peers, []api.Peer{peer, {Key: "n3", Name: "box", Addrs: ips("100.64.0.3"), Routes: []api.Prefix{lan[0], net("10.1.0.0/16")}}})
	for _, key := range append(slices.Clone(notKeys), "n2", "n9", "ann") {
		is(t, key, all(control.MapOf(b, key, 8)), all(api.Map{}, api.ErrNone))
	}
	is(t, "n1 has ended", all(control.MapOf(b, "n1", 105)), all(api.Map{}, api.ErrNone))
	is(t, "too many facts", all(control.MapOf(crowd(29, 69), "k0000", 1_028)), all(api.Map{}, api.ErrLarge))
	is(t, "too many facts, ahead of no node", all(control.MapOf(crowd(29, 69), "K", 1_028)), all(api.Map{}, api.ErrLarge))
}

// P10.3: Make's errors.
func TestNoMap(t *testing.T) {
	b := api.Book{Setting: office(), Steps: steps("0 s1 1 join ann n1 - 0a mac")}
	b.Setting.Policy = wide()
	right(t, b)
	is(t, "too many rows", all(control.MapOf(b, "n1", 0)), all(api.Map{}, api.ErrLarge))
	is(t, "no node", all(control.MapOf(b, "n2", 0)), all(api.Map{}, api.ErrNone))
	b.Setting.Policy.Grants = b.Setting.Policy.Grants[:15]
	is(t, "just not too many", errnoOf(all(control.MapOf(b, "n1", 0))), api.OK)
}

// wide is a policy of which n1 would get more rows than there may be.
func wide() api.Policy {
	return policy(joined(repeat(16, func(i int) string {
		return "allow * -> " + strings.Join(repeat(20, func(k int) string { return fmt.Sprint("node:n1;", 20*i+k) }), ",")
	})))
}

// record is a record of an address of a name.
func record(name, address string) api.Record {
	r := api.Record{Name: name, Kind: api.RecordA, Addr: ip(address), Life: api.NameLife}
	if r.Addr.Six {
		r.Kind = api.RecordAAAA
	}
	return r
}

// P10.3
func TestNamesOf(t *testing.T) {
	b := day()
	b.Steps = append(b.Steps, steps("80 s1 4 join cid n4 - 0d my_own")...)
	for _, c := range []struct {
		at   int
		want []api.Record
	}{
		{0, nil},
		{5, []api.Record{record("mac.corp.net", "100.64.0.1"), record("mac.corp.net", "fd00::1")}},
		{9, []api.Record{record("mac-1.corp.net", "100.64.0.2"), record("mac.corp.net", "100.64.0.1"), record("mac.corp.net", "fd00::1")}},
		{30, []api.Record{record("box.corp.net", "100.64.0.3"), record("mac.corp.net", "100.64.0.1"), record("mac.corp.net", "fd00::1"), record("pc.corp.net", "100.64.0.2")}},
		{105, []api.Record{record("box.corp.net", "100.64.0.3"), record("my-own.corp.net", "100.64.0.4"), record("my-own.corp.net", "fd00::4"), record("my-own.corp.net", "fd00::5"), record("pc.corp.net", "100.64.0.2")}},
	} {
		is(t, fmt.Sprint(c.at), all(control.NamesOf(b, c.at)), all(api.Zone{Root: "corp.net", Records: c.want}, api.OK))
	}
	b.Steps = steps("5 s1 1 join ann n2 - 0a mac; 6 s1 2 join ann n1 - 0b mac; 20 s1 3 expire ann n2")
	is(t, "who was there first", must(control.NamesOf(b, 6)).Records[0], record("mac-1.corp.net", "100.64.0.1"))
	is(t, "who is not live counts for nothing", must(control.NamesOf(b, 20)).Records, []api.Record{record("mac.corp.net", "100.64.0.1"), record("mac.corp.net", "fd00::1")})
	b.Setting.Suffix = "in-addr.arpa"
	back := api.Record{Name: "1.0.64.100.in-addr.arpa", Kind: api.RecordBack, To: "mac.in-addr.arpa", Life: api.NameLife}
	is(t, "names of addresses", must(control.NamesOf(b, 20)).Records, []api.Record{back, record("mac.in-addr.arpa", "100.64.0.1"), record("mac.in-addr.arpa", "fd00::1")})
}

// P10.3: ZoneOf's errors.
func TestTooManyNames(t *testing.T) {
	b := crowd(251, 0)
	for i := range b.Setting.Places {
		b.Setting.Places[i].Addrs = repeat(4, func(k int) api.Addr { return api.Addr{Lo: uint64(4*i + k)} })
	}
	b.Setting.Suffix = "in-addr.arpa"
	right(t, b)
	z, e := control.NamesOf(b, 249)
	is(t, "names", all(len(z.Records), e), all(2_000, api.OK))
	is(t, "too many names", all(control.NamesOf(b, 250)), all(api.Zone{}, api.ErrLarge))
	is(t, "too many names", all(control.Resolve(b, "n", 250)), all([]api.Addr{}, api.ErrLarge))
	is(t, "too many names, ahead of no name", all(control.Resolve(b, "N", 250)), all([]api.Addr{}, api.ErrLarge))
	is(t, "too many facts", all(control.NamesOf(crowd(29, 69), 1_028)), all(api.Zone{}, api.ErrLarge))
	is(t, "too many facts", all(control.Resolve(crowd(29, 69), "n", 1_028)), all([]api.Addr{}, api.ErrLarge))
}

// P10.3
func TestResolve(t *testing.T) {
	b := day()
	b.Steps = append(b.Steps, steps("80 s1 4 join cid n4 - 0d my_own")...)
	label := strings.Repeat("a", api.MaxLabel)
	long := strings.Join([]string{label, label, label}, ".") // of 191 bytes
	for _, c := range []struct {
		name, want string
		at         int
	}{
		{"mac", "100.64.0.1 fd00::1", 9},
		{"mac.corp.net", "100.64.0.1 fd00::1", 9},
		{"mac-1", "100.64.0.2", 9},
		{"mac-1.corp.net", "100.64.0.2", 9},
		{"mac", "", 4},
		{"mac-1", "", 8},
		{"pc", "", 29},
		{"pc", "100.64.0.2", 30},
		{"my-own", "100.64.0.4 fd00::4 fd00::5", 80},
		{"mac", "100.64.0.1 fd00::1", 104},
		{"mac", "", 105},
		{"zed", "", 9},
		{"corp.net", "", 9},
		{"net", "", 9},
		{"mac.corp", "", 9},
		{"xcorp.net", "", 9},
		{"x.mac", "", 9},
		{"corp.net.corp.net", "", 9},
		{"mac.corp.net.corp.net", "", 9},
		{long + "." + strings.Repeat("b", 52), "", 9},
		{long + "." + strings.Repeat("b", 52) + ".corp.net", "", 9},
	} {
		is(t, c.name, all(control.Resolve(b, c.name, c.at)), all(ips(c.want), api.OK))
	}
	for _, c := range []struct {
		name string
		e    api.Errno
	}{
		{"", api.ErrName},
		{"MAC", api.ErrName},
		{"mac.", api.ErrName},
		{".mac", api.ErrName},
		{"mac_1", api.ErrName},
		{"*", api.ErrName},
		{"*.corp.net", api.ErrName},
		{label + "a", api.ErrName},
		{long + "." + strings.Repeat("b", 53), api.ErrLarge},
		{long + "." + label, api.ErrLarge},
		{strings.Repeat("A", 254), api.ErrLarge},
		{strings.Repeat("A", 250), api.ErrName},
	} {
		is(t, c.name, all(control.Resolve(b, c.name, 9)), all([]api.Addr{}, c.e))
	}
	b.Setting.Suffix = "in-addr.arpa"
	is(t, "a name with other records", all(control.Resolve(b, "1.0.64.100", 9)), all([]api.Addr{}, api.OK))
}

// P10.3
func TestWhoIs(t *testing.T) {
	b := day()
	b.Steps = append(b.Steps, steps("70 s1 4 renew ann n3 ff")...)
	n1 := api.Machine{Node: "n1", User: "ann", Name: "mac", Public: "0a", Joined: 5, Expires: 105, Approved: true}
	is(t, "n1", all(control.WhoIs(b, ip("100.64.0.1"), 5)), all(n1, true, api.OK))
	is(t, "n1", all(control.WhoIs(b, ip("fd00::1"), 104)), all(n1, true, api.OK))
	is(t, "n3", all(control.WhoIs(b, ip("100.64.0.3"), 69)), all(api.Machine{Node: "n3", Name: "box", Public: "0c", Tags: words("web"), Joined: 20, Expires: api.End, Approved: true}, true, api.OK))
	is(t, "n3 with another key", all(control.WhoIs(b, ip("100.64.0.3"), 70)), all(api.Machine{Node: "n3", Name: "box", Public: "ff", Tags: words("web"), Joined: 20, Expires: api.End, Approved: true}, true, api.OK))
	for _, c := range []struct {
		addr string
		at   int
	}{{"100.64.0.1", 4}, {"100.64.0.1", 105}, {"100.64.0.4", 50}, {"10.0.0.1", 50}, {"::", 50}, {"fd00::5", 50}} {
		is(t, c.addr, all(control.WhoIs(b, ip(c.addr), c.at)), all(api.Machine{}, false, api.OK))
	}
	is(t, "no address", all(control.WhoIs(b, api.Addr{Hi: 1}, 5)), all(api.Machine{}, false, api.ErrForm))
	is(t, "no address, ahead of too many facts", all(control.WhoIs(crowd(29, 69), api.Addr{Hi: 1}, 1_028)), all(api.Machine{}, false, api.ErrForm))
	is(t, "too many facts", all(control.WhoIs(crowd(29, 69), api.Addr{Lo: 1}, 1_028)), all(api.Machine{}, false, api.ErrLarge))
}

// P10.3: maps, names and machines are as the chapters tell them for the world; names are those of live nodes.
func TestAnswersOfMany(t *testing.T) {
	r := newChance(5)
	maps, named, found := 0, 0, 0
	for range 150 {
		b := r.book()
		d := b.Setting.Directory
		at := r.Intn(lastTold + 20)
		w := must((teller{b}).world(at))
		live := must(node.Live(d, b.Steps, at))
		var wishes []api.Wish
		for _, m := range must(node.Machines(d, b.Steps, at)) {
			if slices.Contains(live, m.Node) {
				wishes = append(wishes, api.Wish{Node: m.Node, Name: m.Name, Joined: m.Joined})
			}
		}
		z := must(name.ZoneOf(b.Setting.Suffix, api.NameLife, must(name.Call(wishes)), w.Scene.Nodes))
		is(t, "NamesOf", all(control.NamesOf(b, at)), all(z, api.OK))
		for _, key := range someNodes {
			m, e := control.MapOf(b, key, at)
			is(t, "MapOf", all(m, e), all(netmap.Make(w, key)))
			is(t, "there is one", e == api.OK, slices.Contains(live, key))
			maps += len(m.Peers)
		}
		for _, s := range words("mac mac-1 pc n1 a-b zed") {
			var want []api.Addr
			for _, six := range []bool{false, true} {
				for _, x := range z.Records {
					if x.Name == s+"."+z.Root && x.Addr.Six == six {
						want = append(want, x.Addr)
					}
				}
			}
			is(t, "Resolve", all(control.Resolve(b, s, at)), all(want, api.OK))
			is(t, "Resolve", all(control.Resolve(b, s+"."+z.Root, at)), all(want, api.OK))
			named += len(want)
		}
		for _, a := range someAddrs {
			want := all(api.Machine{}, false, api.OK)
			for _, n := range w.Scene.Nodes {
				if slices.Contains(n.Addrs, a) {
					want = all(node.StateOf(d, b.Steps, n.Key, at))
					found++
				}
			}
			is(t, "WhoIs", all(control.WhoIs(b, a, at)), want)
		}
	}
	if maps < 100 || named < 200 || found < 300 {
		t.Errorf("%d peers, %d addresses, %d machines", maps, named, found)
	}
}
