package name_test

import (
	"fmt"
	"math"
	"slices"
	"strings"
	"testing"

	"holloway/api"
	"holloway/name"
)

// Records that are right, in the order of zones, all of them below x.
var someRecords = records("*.a.x a 0 255.255.255.255; *.a.x words 1 w; *.x alias 1000000 out.y; 0.x back 7 a.x; _a._b.x aaaa 5 ::; _a._b.x aaaa 5 ::1; _a._b.x aaaa 5 1::; _a._b.x aaaa 5 ffff:ffff:ffff:ffff:ffff:ffff:ffff:ffff; " +
	"a.x a 5 0.0.0.0; a.x a 6 0.0.0.1; a.x back 5 _a; a.x back 5 a; a.x back 5 a.b; a.x words 5; a.x words 5 a b; a.x words 5 é; a.x aaaa 5 ::; b.x alias 5 b.x; c.a.x back 0 z; x a 9 1.2.3.4")

// What makes any record wrong, in the order of the errors.
var recordSpoilers = []spoiler[api.Record]{
	{"no name", func(x *api.Record) { x.Name = "" }, api.ErrName},
	{"no domain name", func(x *api.Record) { x.Name = "a..x" }, api.ErrName},
	{"a long name", func(x *api.Record) { x.Name = long(254, "x") }, api.ErrName},
	{"just a star", func(x *api.Record) { x.Name = "*" }, api.ErrName},
	{"nothing behind a star", func(x *api.Record) { x.Name = "*." }, api.ErrName},
	{"two stars", func(x *api.Record) { x.Name = "*.*.x" }, api.ErrName},
	{"a star without a point", func(x *api.Record) { x.Name = "*x" }, api.ErrName},
	{"a star within", func(x *api.Record) { x.Name = "a.*.x" }, api.ErrName},
	{"a long name with a star", func(x *api.Record) { x.Name = "*." + long(252, "x") }, api.ErrName},
	{"kind 0", func(x *api.Record) { x.Kind = 0 }, api.ErrKind},
	{"kind 2", func(x *api.Record) { x.Kind = 2 }, api.ErrKind},
	{"a low kind", func(x *api.Record) { x.Kind = math.MinInt }, api.ErrKind},
	{"a high kind", func(x *api.Record) { x.Kind = math.MaxInt }, api.ErrKind},
	{"no address", func(x *api.Record) { x.Addr = api.Addr{Hi: 1} }, api.ErrForm},
	{"no words", func(x *api.Record) { x.Words = "a  b" }, api.ErrForm},
	{"a low life", func(x *api.Record) { x.Life = -1 }, api.ErrArg},
	{"the least life", func(x *api.Record) { x.Life = math.MinInt }, api.ErrArg},
	{"a long life", func(x *api.Record) { x.Life = api.MaxLife + 1 }, api.ErrArg},
	{"the longest life", func(x *api.Record) { x.Life = math.MaxInt }, api.ErrArg},
}

// A checker is a function that says what is wrong with a record, in whatever it stands.
type checker struct {
	name string
	f    func(r api.Record) api.Errno
}

// Zones, caches and messages ask the same of a record.
var checkers = []checker{
	{"zone", func(r api.Record) api.Errno {
		return name.CheckZone(api.Zone{Root: "x", Records: []api.Record{r}})
	}},
	{"cache", func(r api.Record) api.Errno {
		c, _ := name.New(1)
		return c.Put(0, "x", api.RecordA, []api.Record{r}, 5)
	}},
	{"message", func(r api.Record) api.Errno {
		_, e := name.Encode(api.Message{Got: []api.Record{r}})
		return e
	}},
}

// P6.4, P6.8, P6.9, Z4, Z6, Z8
func TestRecords(t *testing.T) {
	six := func(r *api.Record) { r.Addr.Six = true }
	for _, c := range checkers {
		for _, right := range someRecords {
			if c.name == "message" && right.Name[0] == '*' {
				continue
			}
			is(t, fmt.Sprint(c.name, right), c.f(right), api.OK)
			for i, s := range recordSpoilers {
				for _, later := range recordSpoilers[i:] {
					r := right
					later.do(&r)
					s.do(&r)
					is(t, fmt.Sprint(c.name, right, s.name, ", and ", later.name), c.f(r), s.e)
				}
			}
		}
		for _, x := range []struct {
			right string
			spoil func(r *api.Record)
			want  api.Errno
		}{
			{"x a 5 1.2.3.4", six, api.ErrForm},
			{"x a 5 1.2.3.4", func(r *api.Record) { r.Addr.Lo = 1 << 32 }, api.ErrForm},
			{"x a 5 1.2.3.4", func(r *api.Record) { r.Addr.Lo = 1<<32 - 1 }, api.OK},
			{"x a 5 1.2.3.4", func(r *api.Record) { r.To = "a" }, api.ErrForm},
			{"x a 5 1.2.3.4", func(r *api.Record) { r.Words = "a" }, api.ErrForm},
			{"x aaaa 5 ::1", func(r *api.Record) { r.Addr.Six = false }, api.ErrForm},
			{"x aaaa 5 ::1", func(r *api.Record) { r.Addr = api.Addr{} }, api.ErrForm},
			{"x aaaa 5 ::1", func(r *api.Record) { r.To = "a" }, api.ErrForm},
			{"x aaaa 5 ::1", func(r *api.Record) { r.Words = "a" }, api.ErrForm},
			{"x alias 5 a", six, api.ErrForm},
			{"x alias 5 a", func(r *api.Record) { r.Addr.Lo = 1 }, api.ErrForm},
			{"x alias 5 a", func(r *api.Record) { r.To = "" }, api.ErrName},
			{"x alias 5 a", func(r *api.Record) { r.To = "*.a" }, api.ErrName},
			{"x alias 5 a", func(r *api.Record) { r.To = tooLong }, api.ErrName},
			{"x alias 5 a", func(r *api.Record) { r.To = long(253, "y") }, api.OK},
			{"x alias 5 a", func(r *api.Record) { r.Words = "a" }, api.ErrForm},
			{"x back 5 a", six, api.ErrForm},
			{"x back 5 a", func(r *api.Record) { r.To = "A" }, api.ErrName},
			{"x back 5 a", func(r *api.Record) { r.Words = "a" }, api.ErrForm},
			{"x words 5 a", six, api.ErrForm},
			{"x words 5 a", func(r *api.Record) { r.Addr.Lo = 1 }, api.ErrForm},
			{"x words 5 a", func(r *api.Record) { r.To = "a" }, api.ErrForm},
			{"x words 5 a", func(r *api.Record) { r.Words = " a" }, api.ErrForm},
			{"x words 5 a", func(r *api.Record) { r.Words = "a\n" }, api.ErrForm},
			{"x words 5 a", func(r *api.Record) { r.Words = "\xff" }, api.ErrForm},
			{"x words 5 a", func(r *api.Record) { r.Words = strings.Repeat("a", 201) }, api.ErrForm},
			{"x words 5 a", func(r *api.Record) { r.Words = strings.Repeat("é", 100) }, api.OK},
			{"x words 5 a", func(r *api.Record) { r.Words = "" }, api.OK},
		} {
			r := records(x.right)[0]
			x.spoil(&r)
			is(t, fmt.Sprintf("%s: %+v", c.name, r), c.f(r), x.want)
		}
		// All at once, mended in the order of the errors.
		ladder(t, c.name, api.Record{Name: "X", Addr: api.Addr{Hi: 1}, To: "A", Words: " ", Life: -1}, c.f,
			step[api.Record]{api.ErrName, func(r *api.Record) { r.Name = long(253, "x") }},
			step[api.Record]{api.ErrKind, func(r *api.Record) { r.Kind = api.RecordAlias }},
			step[api.Record]{api.ErrForm, func(r *api.Record) { r.Addr = api.Addr{} }},
			step[api.Record]{api.ErrName, func(r *api.Record) { r.To = "a" }},
			step[api.Record]{api.ErrForm, func(r *api.Record) { r.Words = "" }},
			step[api.Record]{api.ErrArg, func(r *api.Record) { r.Life = api.MaxLife }})
	}
	star := api.Record{Name: "*." + long(251, "x"), Kind: api.RecordA}
	for i, want := range []api.Errno{api.OK, api.OK, api.ErrName} {
		is(t, checkers[i].name+" with a star", checkers[i].f(star), want)
	}
}

// P6.4, Z4
func TestCheckZone(t *testing.T) {
	check := func(l []api.Record) api.Errno { return name.CheckZone(api.Zone{Root: "x", Records: l}) }
	other := []spoiler[api.Record]{
		{"not under the root", func(x *api.Record) { x.Name = "x.y" }, api.ErrRule},
		{"another ending", func(x *api.Record) { x.Name = "ax" }, api.ErrRule},
		{"a star that is not under it", func(x *api.Record) { x.Name = "*.xx" }, api.ErrRule},
	}
	checked(t, someRecords, check, api.ErrTwice, slices.Concat(recordSpoilers, other))
	for _, c := range []struct {
		records string
		want    api.Errno
	}{
		// The same but for its life.
		{"x a 1 0.0.0.0; x a 2 0.0.0.0", api.ErrTwice},
		{"x alias 1 a; x alias 2 a", api.ErrTwice},
		// By name, bytewise and not by labels, with stars; by kind, address, To and words.
		{"a.z.x a 1 0.0.0.0; b.x a 1 0.0.0.0", api.OK},
		{"b.x a 1 0.0.0.0; a.z.x a 1 0.0.0.0", api.ErrOrder},
		{"a.x a 1 0.0.0.0; *.x a 1 0.0.0.0", api.ErrOrder},
		{"x aaaa 1 ::; x words 1 a", api.ErrOrder},
		{"x back 1 a; x a 1 0.0.0.0", api.ErrOrder},
		{"x aaaa 1 1::; x aaaa 1 ::2", api.ErrOrder},
		{"x aaaa 1 ::2; x aaaa 1 1::", api.OK},
		{"x aaaa 1 ::2; x aaaa 1 ::1", api.ErrOrder},
		{"x a 1 0.0.0.2; x a 9 0.0.0.1", api.ErrOrder},
		{"x back 1 b; x back 1 a.c", api.ErrOrder},
		{"x words 1 a; x words 1", api.ErrOrder},
		// An alias is alone, also with a star.
		{"x a 1 0.0.0.0; x alias 1 a", api.ErrConflict},
		{"x alias 1 a; x alias 1 b", api.ErrConflict},
		{"x alias 1 a; x back 1 b", api.ErrConflict},
		{"x alias 1 a; x aaaa 1 ::", api.ErrConflict},
		{"*.x alias 1 a; *.x words 1 b", api.ErrConflict},
		{"*.x alias 1 a; x words 1 b", api.OK},
		{"*.x a 1 0.0.0.0; x alias 1 b", api.OK},
		{"a.x a 1 0.0.0.0; x alias 1 b", api.OK},
		{"x alias 1 b; x a 1 0.0.0.0", api.ErrOrder},
		{"a.x alias 1 b; x a 1 0.0.0.0; y a 1 0.0.0.0", api.ErrRule},
		{"*.x.y a 1 0.0.0.0", api.ErrRule},
	} {
		is(t, c.records, check(records(c.records)), c.want)
	}
	many := func(n int) []api.Record {
		return repeat(n, func(i int) api.Record {
			return api.Record{Name: "x", Kind: api.RecordA, Addr: api.Addr{Lo: uint64(i)}}
		})
	}
	is(t, "full", check(many(api.MaxRecords)), api.OK)
	is(t, "too many", check(many(api.MaxRecords+1)), api.ErrLarge)
	is(t, "too many that are wrong", check(make([]api.Record, api.MaxRecords+1)), api.ErrLarge)
	for root, want := range map[string]api.Errno{"": api.ErrName, "*.x": api.ErrName, "X": api.ErrName, tooLong: api.ErrLarge, long(253, "x"): api.OK} {
		is(t, root, name.CheckZone(api.Zone{Root: root}), want)
	}
	is(t, "root first", name.CheckZone(api.Zone{Root: "X", Records: many(api.MaxRecords + 1)}), api.ErrName)
	// What is not under a root that is longer.
	is(t, "above the root", name.CheckZone(zone("net.x", "x a 1 0.0.0.0")), api.ErrRule)
	is(t, "the root", name.CheckZone(zone("net.x", "net.x a 1 0.0.0.0")), api.OK)
}

// P6.4
func TestZoneOf(t *testing.T) {
	for _, c := range []struct{ root, called, nodes, want string }{
		{"x", "", "", ""},
		{"net.x", "n1 b; n2 a", "n1 10.0.0.2 ::1; n2 10.0.0.1", "a.net.x a 60 10.0.0.1; b.net.x a 60 10.0.0.2; b.net.x aaaa 60 ::1"},
		// Nodes that are not called, calls without a node, and nodes without addresses.
		{"x", "n1 a; n3 c; n4 d", "n2 10.0.0.1; n3 10.0.0.2; n4", "c.x a 60 10.0.0.2"},
		// Two with the same label.
		{"x", "n1 a; n2 a", "n1 10.0.0.2; n2 10.0.0.1", "a.x a 60 10.0.0.1; a.x a 60 10.0.0.2"},
		// Names of addresses under the root.
		{"0.10.in-addr.arpa", "n1 a; n2 _b", "n1 10.0.0.1 10.1.0.1 ::1; n2 10.0.0.2 10.0.0.1",
			"1.0.0.10.in-addr.arpa back 60 _b.0.10.in-addr.arpa; 1.0.0.10.in-addr.arpa back 60 a.0.10.in-addr.arpa; 2.0.0.10.in-addr.arpa back 60 _b.0.10.in-addr.arpa; " +
				"_b.0.10.in-addr.arpa a 60 10.0.0.1; _b.0.10.in-addr.arpa a 60 10.0.0.2; a.0.10.in-addr.arpa a 60 10.0.0.1; a.0.10.in-addr.arpa a 60 10.1.0.1; a.0.10.in-addr.arpa aaaa 60 ::1"},
		{"arpa", "n1 a", "n1 ::1 1.0.0.0", "0.0.0.1.in-addr.arpa back 60 a.arpa; 1." + strings.Repeat("0.", 31) + "ip6.arpa back 60 a.arpa; a.arpa a 60 1.0.0.0; a.arpa aaaa 60 ::1"},
		{"4.3.2.1.in-addr.arpa", "n1 a", "n1 1.2.3.4 4.3.2.1", "4.3.2.1.in-addr.arpa back 60 a.4.3.2.1.in-addr.arpa; a.4.3.2.1.in-addr.arpa a 60 1.2.3.4; a.4.3.2.1.in-addr.arpa a 60 4.3.2.1"},
	} {
		is(t, c.called, all(name.ZoneOf(c.root, 60, called(c.called), nodes(c.nodes))), all(zone(c.root, c.want), api.OK))
	}
	full := func(n int) ([]api.Called, []api.Node) {
		l := repeat(api.MaxNodes, func(i int) api.Called { return api.Called{Node: key(i), Label: key(i)} })
		m := repeat(api.MaxNodes, func(i int) api.Node {
			return api.Node{Key: key(i), Addrs: repeat(n, func(k int) api.Addr { return api.Addr{Lo: uint64(i*10 + k)} })}
		})
		return l, m
	}
	l, m := full(4)
	z, e := name.ZoneOf("x", 0, l, m)
	is(t, "full", all(len(z.Records), e, name.CheckZone(z)), all(api.MaxRecords, api.OK, api.OK))
	is(t, "too many records", all(name.ZoneOf("arpa", 0, l, m)), all(api.Zone{}, api.ErrLarge))
	l, m = full(2)
	z, e = name.ZoneOf("arpa", api.MaxLife, l, m)
	is(t, "full", all(len(z.Records), e, name.CheckZone(z)), all(api.MaxRecords, api.OK, api.OK))
}

// of is what ZoneOf is asked.
type of struct {
	root   string
	life   int
	called []api.Called
	nodes  []api.Node
}

func zoneOfErrno(x of) api.Errno {
	_, e := name.ZoneOf(x.root, x.life, x.called, x.nodes)
	return e
}

// P6.4, Z4, Z6
func TestZoneOfErrors(t *testing.T) {
	right := of{"x", 60, called("a a; a- _a; a0 0; b " + label63), nodes("a; b 0.0.0.0 ::; c 1.2.3.4 1.2.3.5 1.2.3.6 1.2.3.7")}
	checked(t, right.called, func(l []api.Called) api.Errno { return zoneOfErrno(of{"x", 60, l, right.nodes}) }, api.ErrOrder, []spoiler[api.Called]{
		{"no node", func(x *api.Called) { x.Node = "" }, api.ErrName},
		{"no key", func(x *api.Called) { x.Node = "A" }, api.ErrName},
		{"no label", func(x *api.Called) { x.Label = "" }, api.ErrName},
		{"two labels", func(x *api.Called) { x.Label = "a.b" }, api.ErrName},
		{"a bad label", func(x *api.Called) { x.Label = "a-" }, api.ErrName},
		{"a long label", func(x *api.Called) { x.Label = label63 + "a" }, api.ErrName},
		{"a star", func(x *api.Called) { x.Label = "*" }, api.ErrName},
	})
	checked(t, right.nodes, func(l []api.Node) api.Errno { return zoneOfErrno(of{"x", 60, right.called, l}) }, api.ErrOrder, []spoiler[api.Node]{
		{"no node", func(x *api.Node) { x.Key = "" }, api.ErrName},
		{"no key", func(x *api.Node) { x.Key = "a." }, api.ErrName},
		{"many addresses", func(x *api.Node) { x.Addrs = make([]api.Addr, api.MaxAddrs+1) }, api.ErrLarge},
		{"no address", func(x *api.Node) { x.Addrs = []api.Addr{{}, {Hi: 1}} }, api.ErrForm},
	})
	is(t, "order ahead of addresses", zoneOfErrno(of{"x", 60, nil, []api.Node{{Key: "b"}, {Key: "a", Addrs: make([]api.Addr, api.MaxAddrs+1)}}}), api.ErrOrder)
	for life, want := range map[int]api.Errno{0: api.OK, api.MaxLife: api.OK, -1: api.ErrArg, api.MaxLife + 1: api.ErrArg, math.MinInt: api.ErrArg, math.MaxInt: api.ErrArg} {
		is(t, fmt.Sprint(life), zoneOfErrno(of{"x", life, nil, nil}), want)
	}
	// All at once, mended in the order of the errors; at the end those of the zone.
	ladder(t, "ZoneOf", of{"X", -1, make([]api.Called, api.MaxNodes+1), make([]api.Node, api.MaxNodes+1)}, zoneOfErrno,
		step[of]{api.ErrName, func(x *of) { x.root = tooLong }},
		step[of]{api.ErrLarge, func(x *of) { x.root = long(252, "x") }},
		step[of]{api.ErrArg, func(x *of) { x.life = 0 }},
		step[of]{api.ErrLarge, func(x *of) { x.called = called("B a; a b") }},
		step[of]{api.ErrName, func(x *of) { x.called = called("b a; a b") }},
		step[of]{api.ErrOrder, func(x *of) { x.called = called("a aa; b b") }},
		step[of]{api.ErrLarge, func(x *of) { x.nodes = nodes("a ::1 ::1; A") }},
		step[of]{api.ErrName, func(x *of) { x.nodes = nodes("a ::1 ::1") }},
		// The name has 255 bytes, then 254, then 253; its node has an address twice.
		step[of]{api.ErrName, func(x *of) { x.called[0].Label = "a" }},
		step[of]{api.ErrName, func(x *of) { x.root = long(251, "x") }},
		step[of]{api.ErrTwice, func(x *of) { x.nodes[0].Addrs = x.nodes[0].Addrs[:1] }})
}
