package route_test

import (
	"fmt"
	"math"
	"slices"
	"testing"

	"holloway/api"
	"holloway/route"
)

// P5.4, Z4, Z6
func TestCheckProbes(t *testing.T) {
	right := probes("0 a fra 20; 0 a nyc -1; 0 b fra 0; 1 a a 1000000; 1 a fra 3; 1 b fra 20; 7 a fra 20; " + fmt.Sprint(api.End-1) + " a fra 20")
	checked(t, right, route.CheckProbes, []spoiler[api.Probe]{
		{"below 0", func(x *api.Probe) { x.At = -1 }, api.ErrArg},
		{"the end", func(x *api.Probe) { x.At = api.End }, api.ErrArg},
		{"no node", func(x *api.Probe) { x.Node = "" }, api.ErrName},
		{"no key", func(x *api.Probe) { x.Node = "a b" }, api.ErrName},
		{"no relay", func(x *api.Probe) { x.Relay = "" }, api.ErrName},
		{"no key of a relay", func(x *api.Probe) { x.Relay = "9" }, api.ErrName},
		{"below -1", func(x *api.Probe) { x.Millis = -2 }, api.ErrArg},
		{"the least int", func(x *api.Probe) { x.Millis = math.MinInt }, api.ErrArg},
		{"too long", func(x *api.Probe) { x.Millis = api.MaxMillis + 1 }, api.ErrArg},
		{"the greatest int", func(x *api.Probe) { x.Millis = math.MaxInt }, api.ErrArg},
	})
	many := func(n int) []api.Probe {
		return repeat(n, func(i int) api.Probe { return api.Probe{At: i / 2, Node: "a", Relay: key(i)} })
	}
	is(t, "full", route.CheckProbes(many(api.MaxProbes)), api.OK)
	is(t, "too many", route.CheckProbes(many(api.MaxProbes+1)), api.ErrLarge)
}

// P5.4
func TestHomes(t *testing.T) {
	for _, c := range []struct {
		l    string
		gain int
		want string
	}{
		{"", 5, ""},
		{"1 b fra 20", 5, ""},
		{"1 a fra -1; 1 a nyc -1", 5, ""},
		{"1 a fra 20; 1 a nyc 19", 5, "nyc 1"},
		{"1 a fra 20; 1 a lon 20; 1 a nyc 21", 5, "fra 1"},
		{"1 a fra -1; 1 a nyc 900", 5, "nyc 1"},
		// By less than gain, and by gain.
		{"1 a fra 20; 2 a fra 20; 2 a nyc 16; 3 a fra 20; 3 a nyc 15; 4 a fra 15; 4 a nyc 19; 5 a fra 14; 5 a nyc 19", 5, "fra 1 3; nyc 3 5; fra 5"},
		// One that does not answer, or is not asked, is given up for any that answers.
		{"1 a fra 20; 2 a fra -1; 2 a nyc 90", 50, "fra 1 2; nyc 2"},
		{"1 a fra 20; 2 a nyc 90", 50, "fra 1 2; nyc 2"},
		// It stays if none answers, and in rounds of others.
		{"1 a fra 20; 2 a fra -1; 2 a nyc -1; 3 b nyc 1; 4 a nyc 80; 5 a fra -1", 50, "fra 1 4; nyc 4"},
		// With gain 0 for one that is faster, or as fast with a lesser name.
		{"1 a fra 20; 1 a nyc 20; 2 a fra 20; 2 a nyc 19; 3 a fra 19; 3 a nyc 19; 4 a fra 19; 4 a nyc 19; 4 a zrh 19", 0, "fra 1 2; nyc 2 3; fra 3"},
		{"1 a fra 20; 1 a nyc 20; 2 a fra 21; 2 a nyc 20; 3 a fra 20; 3 a nyc 20", 1, "fra 1 2; nyc 2"},
		// Of several that are faster the fastest one, of equal ones the least.
		{"1 a zrh 50; 2 a ams 30; 2 a fra 20; 2 a nyc 20; 2 a zrh 50", 5, "zrh 1 2; fra 2"},
		// The last one goes on to the end.
		{"0 a fra 1; " + fmt.Sprint(api.End-1) + " a nyc 1", 0, "fra 0 " + fmt.Sprint(api.End-1) + "; nyc " + fmt.Sprint(api.End-1)},
		{"1 a fra 1000000; 2 a fra 1000000; 2 a nyc 0", api.MaxMillis, "fra 1 2; nyc 2"},
	} {
		l, want := probes(c.l), turns(c.want)
		is(t, c.l, all(route.Homes(l, c.gain, "a")), all(want, api.OK))
		for at := range 8 {
			home, e := "", api.ErrNone
			for _, turn := range want {
				if turn.From <= at && at < turn.To {
					home, e = turn.Who, api.OK
				}
			}
			is(t, fmt.Sprint(c.l, " at ", at), all(route.Home(l, c.gain, "a", at)), all(home, e))
		}
	}
}

// P5.5, Z4, Z6
func TestCheckLinks(t *testing.T) {
	right := links("ams fra 0; ams nyc 1000000; fra lon 5; fra nyc 5; lon nyc 5")
	checked(t, right, route.CheckLinks, []spoiler[api.Link]{
		{"no A", func(x *api.Link) { x.A = "" }, api.ErrName},
		{"A is no key", func(x *api.Link) { x.A = "FRA" }, api.ErrName},
		{"no B", func(x *api.Link) { x.B = "" }, api.ErrName},
		{"B is no key", func(x *api.Link) { x.B = "x." }, api.ErrName},
		{"the same", func(x *api.Link) { x.A = x.B }, api.ErrOrder},
		{"the other way round", func(x *api.Link) { x.A, x.B = "zz", "zy" }, api.ErrOrder},
		{"below 0", func(x *api.Link) { x.Millis = -1 }, api.ErrArg},
		{"the least int", func(x *api.Link) { x.Millis = math.MinInt }, api.ErrArg},
		{"too long", func(x *api.Link) { x.Millis = api.MaxMillis + 1 }, api.ErrArg},
	})
	many := func(n int) []api.Link {
		return repeat(n, func(i int) api.Link { return api.Link{A: "a", B: key(i)} })
	}
	is(t, "full", route.CheckLinks(many(api.MaxLinks)), api.OK)
	is(t, "too many", route.CheckLinks(many(api.MaxLinks+1)), api.ErrLarge)
}

// P5.5
func TestThrough(t *testing.T) {
	net := "ams fra 4; ams lon 4; fra lon 9; fra nyc 90; lon nyc 70; nyc sfo 60; tok zrh 1"
	zeros := "a b 0; a c 0; b c 0; b d 0; c d 0; d e 0; d f 0; e g 0; f g 0"
	for _, c := range []struct {
		l, a, b, way string
		millis       int
	}{
		{net, "fra", "lon", "fra ams lon", 8},
		{net, "lon", "fra", "lon ams fra", 8},
		{net, "fra", "nyc", "fra ams lon nyc", 78},
		{net, "sfo", "ams", "sfo nyc lon ams", 134},
		{net, "zrh", "tok", "zrh tok", 1},
		{net, "fra", "fra", "fra", 0},
		{net, "xyz", "xyz", "xyz", 0},
		{"", "a", "a", "a", 0},
		// Of several ways with one sum that with the fewest relays, of several ones the least list.
		{"a b 2; a c 2; a d 4; b d 2; c d 2", "a", "d", "a d", 4},
		{"a b 2; a c 2; b d 2; c d 2", "a", "d", "a b d", 4},
		{"a b 2; a c 2; b d 2; c d 2", "d", "a", "d b a", 4},
		{"a b 3; a c 2; b d 2; c d 2", "a", "d", "a c d", 4},
		{"a c 1; a d 1; b c 1; b e 1; c e 1; d e 1; d f 1; e f 1", "f", "a", "f d a", 2},
		{"a c 1; a d 1; b c 2; b d 2; b e 1", "a", "e", "a c b e", 4},
		// The list counts, not the relay next to the end.
		{"a c 1; a d 1; b d 1; b e 1; c f 1; e f 1", "a", "e", "a c f e", 3},
		{"a y 2; a z 1; b x 0; b z 1; x y 0", "a", "b", "a z b", 2},
		// Steps without time.
		{zeros, "a", "g", "a b d e g", 0},
		{zeros, "g", "a", "g e d b a", 0},
		{zeros, "c", "b", "c b", 0},
		{"a b 1000000; b c 1000000", "c", "a", "c b a", 2_000_000},
	} {
		is(t, c.a+" to "+c.b+" of "+c.l, all(route.Through(links(c.l), c.a, c.b)), all(words(c.way), c.millis, api.OK))
	}
	for _, c := range []struct{ l, a, b string }{{net, "tok", "fra"}, {net, "fra", "zrh"}, {net, "fra", "xyz"}, {net, "xyz", "fra"}, {"", "a", "b"}} {
		is(t, "no way", all(route.Through(links(c.l), c.a, c.b)), all(words(""), 0, api.ErrNone))
	}
}

// P5.5: long ways are no matter.
func TestThroughLong(t *testing.T) {
	chain := repeat(api.MaxLinks, func(i int) api.Link { return api.Link{A: key(i), B: key(i + 1), Millis: api.MaxMillis} })
	way := repeat(api.MaxLinks+1, key)
	is(t, "a chain", all(route.Through(chain, key(0), key(api.MaxLinks))), all(way, api.MaxLinks*api.MaxMillis, api.OK))
	slices.Reverse(way)
	is(t, "a chain back", all(route.Through(chain, key(api.MaxLinks), key(0))), all(way, api.MaxLinks*api.MaxMillis, api.OK))
}

// P5.5
func TestRelayed(t *testing.T) {
	l := probes("1 a fra 21; 1 a nyc 30; 2 b nyc 11; 3 a fra -1; 3 a nyc -1; 4 a fra 31; 4 a nyc 40; 5 c zrh 7; 6 b nyc 13; 7 a nyc 9; 8 d fra 1; 9 a nyc 0")
	net := links("fra lon 5; fra nyc 90; lon nyc 70")
	for _, c := range []struct {
		a, b   string
		at     int
		way    string
		millis int
		e      api.Errno
	}{
		{"a", "b", 1, "", 0, api.ErrNone},
		{"b", "a", 1, "", 0, api.ErrNone},
		{"a", "b", 2, "fra lon nyc", 10 + 75 + 5, api.OK},
		{"b", "a", 2, "nyc lon fra", 10 + 75 + 5, api.OK},
		// No answer tells nothing of how long it takes.
		{"a", "b", 3, "fra lon nyc", 10 + 75 + 5, api.OK},
		{"a", "b", 4, "fra lon nyc", 15 + 75 + 5, api.OK},
		{"a", "b", 6, "fra lon nyc", 15 + 75 + 6, api.OK},
		// Both have the same home.
		{"a", "b", 7, "nyc", 4 + 6, api.OK},
		{"b", "a", 9, "nyc", 6 + 0, api.OK},
		{"a", "d", api.End - 1, "nyc lon fra", 75, api.OK},
		// There is no way, or no home.
		{"a", "c", 5, "", 0, api.ErrNone},
		{"a", "e", 9, "", 0, api.ErrNone},
		{"e", "a", 9, "", 0, api.ErrNone},
	} {
		is(t, fmt.Sprint(c.a, c.b, c.at), all(route.Relayed(l, net, 5, c.a, c.b, c.at)), all(words(c.way), c.millis, c.e))
	}
	// A home need not be linked.
	is(t, "no links", all(route.Relayed(l, nil, 5, "a", "b", 7)), all(words("nyc"), 10, api.OK))
	// The gain is that of homes.
	l = probes("1 a fra 20; 2 a fra 20; 2 a nyc 16; 2 b nyc 0")
	is(t, "a great gain", all(route.Relayed(l, net, 5, "a", "b", 2)), all(words("fra lon nyc"), 85, api.OK))
	is(t, "a small gain", all(route.Relayed(l, net, 4, "a", "b", 2)), all(words("nyc"), 8, api.OK))
}

// P5.4, P5.5, Z4
func TestErrorsOfRelays(t *testing.T) {
	fewProbes := step{api.ErrLarge, func(in *input) { in.probes = probes("1 a fra 20; 2 b nyc 20; 3 c zrh 20") }}
	aLink := step{api.ErrOrder, func(in *input) { in.links = links("fra nyc 7") }}
	gain := step{api.ErrArg, func(in *input) { in.gain = 0 }}
	node := step{api.ErrName, func(in *input) { in.node = "b" }}
	a := step{api.ErrName, func(in *input) { in.one = "a" }}
	b := step{api.ErrName, func(in *input) { in.two = "a" }}
	other := step{api.ErrTwice, func(in *input) { in.two = "x" }}
	moment := step{api.ErrArg, func(in *input) { in.at = 1 }}
	home := step{api.ErrNone, func(in *input) { in.at = 2 }}
	ladder(t, "CheckProbes", callOf("CheckProbes"), fewProbes)
	ladder(t, "CheckLinks", callOf("CheckLinks"), aLink)
	ladder(t, "Home", callOf("Home"), fewProbes, gain, node, moment, home)
	ladder(t, "Homes", callOf("Homes"), fewProbes, gain, node)
	ladder(t, "Through", callOf("Through"), aLink, step{api.ErrName, func(in *input) { in.one = "fra" }}, step{api.ErrName, func(in *input) { in.two = "zrh" }}, step{api.ErrNone, func(in *input) { in.two = "nyc" }})
	ladder(t, "Relayed", callOf("Relayed"), fewProbes, aLink, gain, a, b, other, moment, step{api.ErrNone, func(in *input) { in.two, in.at = "c", 3 }}, step{api.ErrNone, func(in *input) { in.two = "b" }})
	l := probes("1 a fra 20; 1 b fra 20")
	for _, n := range []int{math.MinInt, -1, api.MaxMillis + 1, math.MaxInt} {
		is(t, "Home", all(route.Home(l, n, "a", 1)), all("", api.ErrArg))
		is(t, "Homes", all(route.Homes(l, n, "a")), all([]api.Turn{}, api.ErrArg))
		is(t, "Relayed", all(route.Relayed(l, nil, n, "a", "b", 1)), all(words(""), 0, api.ErrArg))
	}
	for _, at := range []int{math.MinInt, -1, api.End, math.MaxInt} {
		is(t, "Home", all(route.Home(l, 0, "a", at)), all("", api.ErrArg))
		is(t, "Relayed", all(route.Relayed(l, nil, 0, "a", "b", at)), all(words(""), 0, api.ErrArg))
	}
	is(t, "A of Relayed", all(route.Relayed(l, nil, 0, "A", "b", 1)), all(words(""), 0, api.ErrName))
	is(t, "A of Through", all(route.Through(nil, "A", "b")), all(words(""), 0, api.ErrName))
	is(t, "B of Relayed", all(route.Relayed(l, nil, 0, "a", "B", 1)), all(words(""), 0, api.ErrName))
	is(t, "B of Through", all(route.Through(nil, "a", "B")), all(words(""), 0, api.ErrName))
	is(t, "equal names that are none", all(route.Relayed(l, nil, 0, "B", "B", 1)), all(words(""), 0, api.ErrName))
}

// homesOf tells second by second where the home of a node is.
func homesOf(l []api.Probe, gain int, node string) []string {
	var out []string
	home := ""
	for at := range until {
		took := map[string]int{}
		for _, p := range l {
			if p.At == at && p.Node == node && p.Millis != -1 {
				took[p.Relay] = p.Millis
			}
		}
		best := ""
		for _, relay := range someRelays {
			if n, ok := took[relay]; ok && (best == "" || n < took[best]) {
				best = relay
			}
		}
		_, answered := took[home]
		stays := answered && took[home]-took[best] < gain
		if best != "" && !stays {
			home = best
		}
		out = append(out, home)
	}
	return out
}

// A walk is a way, with its sum.
type walk struct {
	relays []string
	millis int
}

// walks are all ways to a relay that come to none twice.
func walks(l []api.Link, so walk, to string) []walk {
	at := so.relays[len(so.relays)-1]
	if at == to {
		return []walk{so}
	}
	var out []walk
	for _, x := range l {
		for _, way := range [][2]string{{x.A, x.B}, {x.B, x.A}} {
			if way[0] == at && !slices.Contains(so.relays, way[1]) {
				out = append(out, walks(l, walk{append(slices.Clone(so.relays), way[1]), so.millis + x.Millis}, to)...)
			}
		}
	}
	return out
}

// throughOf are the relays of the best one of all ways.
func throughOf(l []api.Link, a, b string) []any {
	list := walks(l, walk{relays: []string{a}}, b)
	if len(list) == 0 {
		return all(words(""), 0, api.ErrNone)
	}
	best := slices.MinFunc(list, func(x, y walk) int {
		if x.millis != y.millis {
			return x.millis - y.millis
		}
		if len(x.relays) != len(y.relays) {
			return len(x.relays) - len(y.relays)
		}
		return slices.Compare(x.relays, y.relays)
	})
	return all(best.relays, best.millis, api.OK)
}

// P5.4, P5.5: random relays are held against a second telling.
func TestRelaysOfMany(t *testing.T) {
	r := newChance(2)
	count := map[string]int{}
	for range 400 {
		l, net, gain := r.probes(), r.links(), r.Intn(5)
		is(t, "CheckProbes", route.CheckProbes(l), api.OK)
		is(t, "CheckLinks", route.CheckLinks(net), api.OK)
		var homes [3][]string
		for i, node := range someNodes[:3] {
			homes[i] = homesOf(l, gain, node)
			is(t, "Homes", all(route.Homes(l, gain, node)), all(turnsOf(homes[i]), api.OK))
			for at, home := range homes[i] {
				is(t, "Home", all(route.Home(l, gain, node, at)), all(home, map[bool]api.Errno{true: api.ErrNone}[home == ""]))
			}
			count[fmt.Sprint("homes ", min(len(turnsOf(homes[i])), 3))]++
		}
		for _, a := range someRelays {
			for _, b := range someRelays {
				want := throughOf(net, a, b)
				is(t, "Through", all(route.Through(net, a, b)), want)
				if e := errnoOf(want); e != api.OK {
					count["no way"]++
				} else {
					count[fmt.Sprint("way ", min(len(want[0].([]string)), 4))]++
				}
			}
		}
		for at := range until {
			for i, k := range map[int]int{0: 1, 1: 0, 2: 0} {
				want := relayedOf(l, net, someNodes[i], someNodes[k], homes[i][at], homes[k][at], at)
				is(t, "Relayed", all(route.Relayed(l, net, gain, someNodes[i], someNodes[k], at)), want)
				count[fmt.Sprint("relayed ", errnoOf(want))]++
			}
		}
	}
	for what, least := range map[string]int{"homes 0": 300, "homes 3": 300, "no way": 200, "way 1": 1_000, "way 2": 1_000, "way 3": 500, "way 4": 100, "relayed 0": 5_000, "relayed 8": 5_000} {
		if count[what] < least {
			t.Errorf("%s: %d times", what, count[what])
		}
	}
}

// relayedOf are the relays between two nodes with these homes.
func relayedOf(l []api.Probe, net []api.Link, a, b, homeA, homeB string, at int) []any {
	if homeA == "" || homeB == "" {
		return all(words(""), 0, api.ErrNone)
	}
	want := throughOf(net, homeA, homeB)
	if errnoOf(want) != api.OK {
		return want
	}
	var toA, toB int
	for _, p := range l {
		if p.At > at || p.Millis == -1 {
			continue
		}
		if p.Node == a && p.Relay == homeA {
			toA = p.Millis / 2
		}
		if p.Node == b && p.Relay == homeB {
			toB = p.Millis / 2
		}
	}
	want[1] = want[1].(int) + toA + toB
	return want
}
