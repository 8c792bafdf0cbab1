package name_test

import (
	"fmt"
	"math"
	"slices"
	"strings"
	"testing"

	"holloway/api"
	"holloway/name"
)

// P6.6, Z4
func TestCheckSplits(t *testing.T) {
	right := splits("- a; a.x b a; a0 a-_0; b " + strings.Join(repeat(api.MaxServers, key), " ") + "; " + long(253, "x") + " z")
	slices.SortFunc(right, func(x, y api.Split) int { return strings.Compare(x.Suffix, y.Suffix) })
	servers := func(s string) func(x *api.Split) { return func(x *api.Split) { x.Servers = words(s) } }
	checked(t, right, name.CheckSplits, api.ErrOrder, []spoiler[api.Split]{
		{"a long suffix", func(x *api.Split) { x.Suffix = tooLong }, api.ErrLarge},
		{"no suffix", func(x *api.Split) { x.Suffix = "." }, api.ErrName},
		{"a star", func(x *api.Split) { x.Suffix = "*.x" }, api.ErrName},
		{"no servers", servers(""), api.ErrNone},
		{"many servers", func(x *api.Split) { x.Servers = repeat(api.MaxServers+1, key) }, api.ErrLarge},
		{"many servers that are none", func(x *api.Split) { x.Servers = make([]string, api.MaxServers+1) }, api.ErrLarge},
		{"no server", func(x *api.Split) { x.Servers = []string{"a", ""} }, api.ErrName},
		{"no key", servers("a B"), api.ErrName},
		{"no key behind two that are equal", servers("a a b B"), api.ErrName},
		{"two that are equal", servers("a a"), api.ErrTwice},
		{"two that are apart", servers("b a c b"), api.ErrTwice},
	})
	is(t, "order ahead of servers", name.CheckSplits([]api.Split{{Suffix: "b", Servers: words("a")}, {Suffix: "a"}}), api.ErrOrder)
	is(t, "the empty one twice", name.CheckSplits(splits("- a; - b")), api.ErrOrder)
	many := func(n int) []api.Split {
		return repeat(n, func(i int) api.Split { return api.Split{Suffix: fmt.Sprintf("a%02d", i), Servers: words("a")} })
	}
	is(t, "full", name.CheckSplits(many(api.MaxSplits)), api.OK)
	is(t, "too many", name.CheckSplits(many(api.MaxSplits+1)), api.ErrLarge)
	is(t, "too many that are wrong", name.CheckSplits(make([]api.Split, api.MaxSplits+1)), api.ErrLarge)
}

// P6.6
func TestServers(t *testing.T) {
	without := splits("a.x sa; b.a.x sb sa; x sx; y-z sy")
	with := append(splits("- s0"), without...)
	for n, want := range map[string]string{
		"x": "sx", "b.x": "sx", "a.x": "sa", "q.a.x": "sa", "qa.x": "sx", "b.a.x": "sb sa", "q.r.b.a.x": "sb sa", "bb.a.x": "sa", "y-z": "sy", "q.y-z": "sy", "_q.x": "sx",
		"y": "", "z": "", "ax": "", "x.y": "", "qy-z": "", "a.x.b": "",
	} {
		is(t, n, all(name.Servers(without, n)), all(words(want), want != "", api.OK))
		if want == "" {
			want = "s0"
		}
		is(t, n+" with one for all", all(name.Servers(with, n)), all(words(want), true, api.OK))
	}
	is(t, "no splits", all(name.Servers(nil, "a")), all([]string{}, false, api.OK))
	is(t, "splits first", all(name.Servers(splits("b a; a a"), "")), all([]string{}, false, api.ErrOrder))
	is(t, "no name", all(name.Servers(with, "")), all([]string{}, false, api.ErrName))
	is(t, "a long name", all(name.Servers(with, tooLong)), all([]string{}, false, api.ErrLarge))
}

// P6.6
func TestNames(t *testing.T) {
	for _, c := range []struct {
		search string
		dots   int
		name   string
		want   string
	}{
		{"net.x y", 1, "a", "a.net.x a.y a"},
		{"net.x y", 1, "a.b", "a.b a.b.net.x a.b.y"},
		{"net.x y", 2, "a.b", "a.b.net.x a.b.y a.b"},
		{"net.x y", 2, "a.b.c", "a.b.c a.b.c.net.x a.b.c.y"},
		{"net.x y", 0, "a", "a a.net.x a.y"},
		{"y net.x", 15, "1.2.3.4.5.6.7.8.9.10.11.12.13.14.15", "1.2.3.4.5.6.7.8.9.10.11.12.13.14.15.y 1.2.3.4.5.6.7.8.9.10.11.12.13.14.15.net.x 1.2.3.4.5.6.7.8.9.10.11.12.13.14.15"},
		{"y", 15, "1.2.3.4.5.6.7.8.9.10.11.12.13.14.15.16", "1.2.3.4.5.6.7.8.9.10.11.12.13.14.15.16 1.2.3.4.5.6.7.8.9.10.11.12.13.14.15.16.y"},
		{"", 0, "a", "a"},
		{"", 5, "a", "a"},
		// What was there is left out, and what is too long.
		{"x y x", 1, "a", "a.x a.y a"},
		{"y x y x", 0, "a", "a a.y a.x"},
		{"x " + long(251, "x") + " " + long(252, "x") + " y", 1, "a", "a.x a." + long(251, "x") + " a.y a"},
		{"x yy y", 0, long(250, "z"), long(250, "z") + " " + long(250, "z") + ".x " + long(250, "z") + ".yy " + long(250, "z") + ".y"},
		{"x yy y", 0, long(251, "z"), long(251, "z") + " " + long(251, "z") + ".x " + long(251, "z") + ".y"},
		{"x yy y", 9, long(253, "z"), long(253, "z")},
	} {
		is(t, fmt.Sprint(c.search, c.dots, c.name), all(name.Names(words(c.search), c.dots, c.name)), all(words(c.want), api.OK))
	}
	is(t, "full", all(name.Names(repeat(api.MaxSearch, key), 1, "a")), all(append(repeat(api.MaxSearch, func(i int) string { return "a." + key(i) }), "a"), api.OK))
}

// P6.6, P6.7, Z4, Z6
func TestSearch(t *testing.T) {
	for _, f := range []func(n api.Net) api.Errno{
		name.CheckNet,
		func(n api.Net) api.Errno { _, e := name.Names(n.Search, n.Dots, "a"); return e },
		func(n api.Net) api.Errno {
			n.Splits, n.Sources = splits("- s"), []api.Source{{Server: "s", Zones: []api.Zone{zone("a", "a a 5 0.0.0.0")}}}
			_, e := name.Ask(n, "a", api.RecordA)
			return e
		},
	} {
		ladder(t, "search", api.Net{Search: make([]string, api.MaxSearch+1), Dots: -1}, f,
			step[api.Net]{api.ErrLarge, func(n *api.Net) { n.Search = []string{"x", tooLong, ""} }},
			step[api.Net]{api.ErrLarge, func(n *api.Net) { n.Search = []string{"x", "", tooLong} }},
			step[api.Net]{api.ErrName, func(n *api.Net) { n.Search = words("x x") }},
			step[api.Net]{api.ErrArg, func(n *api.Net) { n.Dots = 16 }},
			step[api.Net]{api.ErrArg, func(n *api.Net) { n.Dots = math.MinInt }},
			step[api.Net]{api.ErrArg, func(n *api.Net) { n.Dots = math.MaxInt }},
			step[api.Net]{api.ErrArg, func(n *api.Net) { n.Dots = 15 }})
	}
	is(t, "dots first", all(name.Names(nil, 16, "")), all([]string{}, api.ErrArg))
	is(t, "no name", all(name.Names(nil, 0, "a.")), all([]string{}, api.ErrName))
	is(t, "a long name", all(name.Names(nil, 0, tooLong)), all([]string{}, api.ErrLarge))
}

// P6.7, Z4
func TestCheckNet(t *testing.T) {
	z := zone("x", "x a 5 0.0.0.0")
	many := func(n int) []api.Zone { return repeat(n, func(i int) api.Zone { return api.Zone{Root: key(i)} }) }
	right := []api.Source{{Server: "a", Zones: []api.Zone{zone("a.x", "*.b.a.x alias 5 c"), zone("a0", ""), z}}, {Server: "a-"}, {Server: "b", Zones: many(api.MaxZones)}}
	zones := func(l ...api.Zone) func(x *api.Source) { return func(x *api.Source) { x.Zones = l } }
	check := func(l []api.Source) api.Errno { return name.CheckNet(api.Net{Sources: l}) }
	checked(t, right, check, api.ErrOrder, []spoiler[api.Source]{
		{"no server", func(x *api.Source) { x.Server = "" }, api.ErrName},
		{"no key", func(x *api.Source) { x.Server = "a.b" }, api.ErrName},
		{"many zones", zones(make([]api.Zone, api.MaxZones+1)...), api.ErrLarge},
		{"no root", zones(z, api.Zone{}), api.ErrName},
		{"a long root", zones(api.Zone{Root: tooLong}), api.ErrLarge},
		{"a wrong record", zones(zone("y", "x a 5 0.0.0.0")), api.ErrRule},
		{"a wrong zone ahead of the order", zones(z, zone("a", "x a 5 0.0.0.0")), api.ErrRule},
		{"two zones that are out of order", zones(z, zone("a", "")), api.ErrOrder},
		{"two zones with the same root", zones(zone("a", ""), z, zone("x", "")), api.ErrOrder},
		{"the order ahead of a later zone", zones(z, zone("a", ""), api.Zone{}), api.ErrOrder},
	})
	is(t, "order ahead of zones", check([]api.Source{{Server: "b"}, {Server: "a", Zones: make([]api.Zone, api.MaxZones+1)}}), api.ErrOrder)
	sources := func(n int) []api.Source {
		return repeat(n, func(i int) api.Source { return api.Source{Server: key(i)} })
	}
	is(t, "full", check(sources(api.MaxServers)), api.OK)
	is(t, "too many", check(sources(api.MaxServers+1)), api.ErrLarge)
	is(t, "too many that are wrong", check(make([]api.Source, api.MaxServers+1)), api.ErrLarge)
	ladder(t, "CheckNet", api.Net{Dots: -1, Splits: splits("b a; a a"), Sources: make([]api.Source, api.MaxServers+1)}, name.CheckNet,
		step[api.Net]{api.ErrArg, func(n *api.Net) { n.Dots = 0 }},
		step[api.Net]{api.ErrOrder, func(n *api.Net) { n.Splits = splits("- a") }},
		step[api.Net]{api.ErrLarge, func(n *api.Net) { n.Sources = nil }})
}

// someNet has a server for all names, two for those of a network, and one that is not among the sources.
func someNet() api.Net {
	return api.Net{
		Search: words("lab.net.x net.x"),
		Dots:   1,
		Splits: splits("- out; lab.net.x in; net.x none out in other"),
		Sources: []api.Source{
			{Server: "in", Zones: []api.Zone{zone("lab.net.x", "a.lab.net.x a 5 0.0.0.1; b.lab.net.x words 5 w"), zone("net.x", "a.lab.net.x a 5 0.0.0.9; a.net.x a 5 0.0.0.2; b.net.x a 5 0.0.0.3; c.net.x alias 5 c.net.x; d.net.x alias 5 a.lab.net.x; z.net.x a 5 0.0.0.7")}},
			{Server: "other", Zones: []api.Zone{zone("net.x", "e.net.x a 5 0.0.0.4"), zone("x", "f.net.x a 5 0.0.0.4")}},
			{Server: "out", Zones: []api.Zone{zone("b", "a.b a 5 0.0.0.5; b a 5 0.0.0.6"), zone("c", "c a 5 0.0.0.8"), zone("et.x", ""), zone("z.net.x", "q.z.net.x a 5 0.0.0.6")}},
		},
	}
}

// P6.7
func TestAsk(t *testing.T) {
	for _, c := range []struct {
		name, found, server, want string
		kind                      int
	}{
		// The first one that is found, with the zone that has the longest root.
		{"a", "a.lab.net.x", "in", "a.lab.net.x a 5 0.0.0.1", api.RecordA},
		{"a.lab.net.x", "a.lab.net.x", "in", "a.lab.net.x a 5 0.0.0.1", api.RecordA},
		{"b", "b.net.x", "in", "b.net.x a 5 0.0.0.3", api.RecordA},
		{"b", "b.lab.net.x", "in", "b.lab.net.x words 5 w", api.RecordWords},
		// With a point the name itself is the first one.
		{"a.b", "a.b", "out", "a.b a 5 0.0.0.5", api.RecordA},
		// One that leads to itself is not found, but the name itself is.
		{"c", "c", "out", "c a 5 0.0.0.8", api.RecordA},
		{"c", "c.net.x", "in", "c.net.x alias 5 c.net.x", api.RecordAlias},
		// Within its own zone an alias is followed.
		{"d.net.x", "d.net.x", "in", "d.net.x alias 5 a.lab.net.x; a.lab.net.x a 5 0.0.0.9", api.RecordA},
		{"d.net.x", "d.net.x", "in", "d.net.x alias 5 a.lab.net.x", api.RecordWords},
		{"q.z", "q.z.net.x", "out", "q.z.net.x a 5 0.0.0.6", api.RecordA},
		// The first server with a zone decides: others are not asked, nor is another of its zones.
		{"e", "", "", "", api.RecordA},
		{"f", "", "", "", api.RecordA},
		{"z", "", "", "", api.RecordA},
		{"a.lab", "a.lab.net.x", "in", "a.lab.net.x a 5 0.0.0.1", api.RecordA},
		{"q.b", "", "", "", api.RecordA},
		{"b", "", "", "", api.RecordAAAA},
		{"y", "", "", "", api.RecordA},
	} {
		want, e := api.Answer{Name: c.found, Server: c.server, Records: records(c.want)}, api.OK
		if c.want == "" {
			want, e = api.Answer{}, api.ErrNone
		}
		is(t, fmt.Sprint(c.name, c.kind), all(name.Ask(someNet(), c.name, c.kind)), all(want, e))
	}
	n := someNet()
	n.Splits = n.Splits[1:]
	is(t, "no servers", all(name.Ask(n, "a.b", api.RecordA)), all(api.Answer{}, api.ErrNone))
	is(t, "no net", all(name.Ask(api.Net{}, "a.b", api.RecordA)), all(api.Answer{}, api.ErrNone))
}

// want is what Ask is asked.
type want struct {
	n    api.Net
	name string
	kind int
}

// P6.7, Z4
func TestAskErrors(t *testing.T) {
	ladder(t, "Ask", want{api.Net{Sources: make([]api.Source, api.MaxServers+1)}, "A", 3}, func(x want) api.Errno { _, e := name.Ask(x.n, x.name, x.kind); return e },
		step[want]{api.ErrLarge, func(x *want) { x.n = someNet() }},
		step[want]{api.ErrName, func(x *want) { x.name = tooLong }},
		step[want]{api.ErrLarge, func(x *want) { x.name = "e" }},
		step[want]{api.ErrKind, func(x *want) { x.kind = api.RecordA }},
		step[want]{api.ErrNone, func(x *want) { x.name = "a" }})
}

// askedOf is a second telling of Ask.
func askedOf(n api.Net, s string, kind int) (api.Answer, api.Errno) {
	tried, _ := name.Names(n.Search, n.Dots, s)
	for _, s := range tried {
		servers, _, _ := name.Servers(n.Splits, s)
		var with *api.Zone
		var by string
		for _, server := range servers {
			for _, source := range n.Sources {
				for i, z := range source.Zones {
					under, _ := name.Under(s, z.Root)
					if source.Server == server && under && (by == "" || by == server && len(z.Root) > len(with.Root)) {
						by, with = server, &source.Zones[i]
					}
				}
			}
		}
		if by == "" {
			continue
		}
		if got, e := (teller{*with}).find(s, kind, 0); e == api.OK && len(got) > 0 {
			return api.Answer{Name: s, Server: by, Records: got}, api.OK
		}
	}
	return api.Answer{}, api.ErrNone
}

// namesOf is a second telling of Names.
func namesOf(search []string, dots int, s string) []string {
	var all, out []string
	for _, x := range search {
		all = append(all, s+"."+x)
	}
	if len(strings.Split(s, "."))-1 < dots {
		all = append(all, s)
	} else {
		all = slices.Insert(all, 0, s)
	}
	for i, x := range all {
		if len(x) <= 253 && slices.Index(all, x) == i {
			out = append(out, x)
		}
	}
	return out
}

// P6.6, P6.7
func TestAskAgain(t *testing.T) {
	r := newChance(8)
	count := map[api.Errno]int{}
	for range 3_000 {
		n := r.net()
		is(t, "the net", name.CheckNet(n), api.OK)
		for range 5 {
			s, kind := r.below(pick(r, words("a b x y"))), pick(r, kinds)
			is(t, fmt.Sprint(n.Search, n.Dots, s), all(name.Names(n.Search, n.Dots, s)), all(namesOf(n.Search, n.Dots, s), api.OK))
			want, e := askedOf(n, s, kind)
			is(t, fmt.Sprint(n, s, kind), all(name.Ask(n, s, kind)), all(want, e))
			count[e]++
		}
	}
	if count[api.OK] < 300 || count[api.ErrNone] < 300 {
		t.Errorf("%v", count)
	}
}
