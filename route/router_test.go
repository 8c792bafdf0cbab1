package route_test

import (
	"fmt"
	"math"
	"slices"
	"testing"

	"holloway/addr"
	"holloway/api"
	"holloway/route"
)

// P5.1, Z4, Z6
func TestCheckRouters(t *testing.T) {
	// By addresses of 32 bits, then those of 128, then by bits, then by nodes; weights are no matter.
	right := routers("0.0.0.0/0 z 1000; 0.0.0.0/8 a 0; 10.0.0.0/8 a 7; 10.0.0.0/8 a0 7; 10.0.0.0/8 b 3; 10.0.0.0/9 a 7; 10.0.0.0/32 a 7; 11.0.0.0/8 a 7; ::/0 a 1; ::/1 a 1; ::1/128 a 1; 8000::/1 a 1")
	checked(t, right, route.CheckRouters, []spoiler[api.Router]{
		{"no address", func(x *api.Router) { x.Prefix = api.Prefix{Addr: api.Addr{Hi: 1}} }, api.ErrForm},
		{"bits", func(x *api.Router) { x.Prefix.Bits = 129 }, api.ErrArg},
		{"bits below 0", func(x *api.Router) { x.Prefix.Bits = math.MinInt }, api.ErrArg},
		{"a bit behind", func(x *api.Router) { x.Prefix = api.Prefix{Addr: api.Addr{Lo: 1}, Bits: 31} }, api.ErrForm},
		{"no node", func(x *api.Router) { x.Node = "" }, api.ErrName},
		{"no key", func(x *api.Router) { x.Node = "A" }, api.ErrName},
		{"a low weight", func(x *api.Router) { x.Weight = -1 }, api.ErrArg},
		{"the least weight", func(x *api.Router) { x.Weight = math.MinInt }, api.ErrArg},
		{"a great weight", func(x *api.Router) { x.Weight = 1_001 }, api.ErrArg},
		{"the greatest weight", func(x *api.Router) { x.Weight = math.MaxInt }, api.ErrArg},
	})
	many := func(n int) []api.Router {
		return repeat(n, func(i int) api.Router { return api.Router{Prefix: net("10.0.0.0/8"), Node: key(i)} })
	}
	is(t, "full", route.CheckRouters(many(api.MaxRouters)), api.OK)
	is(t, "too many", route.CheckRouters(many(api.MaxRouters+1)), api.ErrLarge)
	is(t, "too many that are wrong", route.CheckRouters(make([]api.Router, api.MaxRouters+1)), api.ErrLarge)
	// Two that differ in nothing but the weight are the same router.
	is(t, "two weights", route.CheckRouters(routers("::/0 a 1; ::/0 a 2")), api.ErrOrder)
}

// P5.1, Z4, Z11
func TestCheckHealth(t *testing.T) {
	last := fmt.Sprint(api.End - 1)
	right := health("0 +a; 0 -b; 1 -a; 1 +b; 1 +b0; 7 -a; " + last + " +a; " + last + " +c")
	checked(t, right, route.CheckHealth, []spoiler[api.Health]{
		{"below 0", func(x *api.Health) { x.At = -1 }, api.ErrArg},
		{"the least int", func(x *api.Health) { x.At = math.MinInt }, api.ErrArg},
		{"the end", func(x *api.Health) { x.At = api.End }, api.ErrArg},
		{"the greatest int", func(x *api.Health) { x.At = math.MaxInt }, api.ErrArg},
		{"no node", func(x *api.Health) { x.Node = "" }, api.ErrName},
		{"no key", func(x *api.Health) { x.Node = "a." }, api.ErrName},
	})
	many := func(n int) []api.Health {
		return repeat(n, func(i int) api.Health { return api.Health{At: i, Node: "a"} })
	}
	is(t, "full", route.CheckHealth(many(api.MaxHealth)), api.OK)
	is(t, "too many", route.CheckHealth(many(api.MaxHealth+1)), api.ErrLarge)
	// A node has at most one at one moment.
	is(t, "up and down", route.CheckHealth(health("5 +a; 5 -a")), api.ErrOrder)
}

// P5.1
func TestUp(t *testing.T) {
	l := health("10 +a; 20 +a; 20 +b; 30 -a; 40 -a; 50 +a; 60 -c")
	for _, c := range []struct {
		node string
		at   int
		want bool
	}{
		{"a", 0, false}, {"a", 9, false}, {"a", 10, true}, {"a", 29, true}, {"a", 30, false}, {"a", 49, false}, {"a", 50, true}, {"a", api.End - 1, true},
		{"b", 19, false}, {"b", 20, true}, {"b", api.End - 1, true}, {"c", 60, false}, {"c", 0, false}, {"d", 60, false},
	} {
		is(t, fmt.Sprint("IsUp ", c.node, c.at), all(route.IsUp(l, c.node, c.at)), all(c.want, api.OK))
	}
	for _, c := range []struct {
		node string
		w    api.Window
		want int
	}{
		{"a", window(0, 10), 0}, {"a", window(0, 11), 1}, {"a", window(10, 30), 20}, {"a", window(10, 50), 20}, {"a", window(25, 55), 10}, {"a", window(15, 15), 0},
		{"a", window(0, api.End), 20 + api.End - 50}, {"a", window(api.End-1, api.End), 1}, {"a", window(api.End, api.End), 0},
		{"b", window(0, api.End), api.End - 20}, {"c", window(0, api.End), 0}, {"d", window(0, api.End), 0},
	} {
		is(t, fmt.Sprint("UpTime ", c.node, c.w), all(route.UpTime(l, c.node, c.w)), all(c.want, api.OK))
	}
}

// P5.2: the example of the chapter, and what follows when weights are equal, or all are down.
func TestTurns(t *testing.T) {
	for _, c := range []struct{ r, l, want string }{
		{"10.0.0.0/8 ra 5; 10.0.0.0/8 rb 9", "10 +ra; 20 +rb; 30 -ra", "ra 10 30; rb 30"},
		{"10.0.0.0/8 ra 5; 10.0.0.0/8 rb 9", "", ""},
		{"10.0.0.0/8 ra 5; 10.0.0.0/8 rb 9", "10 -ra; 20 -rb", ""},
		// All that is told at one moment is known: the greater weight is taken, and an exchange has no time between.
		{"10.0.0.0/8 ra 5; 10.0.0.0/8 rb 9", "10 +ra; 10 +rb; 20 -rb; 30 +rb; 40 -ra; 40 +rb", "rb 10 20; ra 20 40; rb 40"},
		{"10.0.0.0/8 ra 5; 10.0.0.0/8 rb 9", "10 +rb; 20 +ra; 20 -rb; 30 -ra; 30 +rb; 40 -ra", "rb 10 20; ra 20 30; rb 30"},
		// One with a greater weight that comes back does not take over.
		{"10.0.0.0/8 ra 5; 10.0.0.0/8 rb 9", "10 +rb; 20 +ra; 20 -rb; 30 +rb; 50 -rb", "rb 10 20; ra 20"},
		// Of equal ones the least.
		{"10.0.0.0/8 ra 5; 10.0.0.0/8 rb 5; 10.0.0.0/8 rc 5", "10 +ra; 10 +rb; 10 +rc; 20 -ra; 30 +ra; 30 -rb", "ra 10 20; rb 20 30; ra 30"},
		{"10.0.0.0/8 ra 0; 10.0.0.0/8 rb 1000; 10.0.0.0/8 rc 999", "10 +ra; 10 +rb; 10 +rc; 20 -rb; 30 -rc", "rb 10 20; rc 20 30; ra 30"},
		// Times without one.
		{"10.0.0.0/8 ra 5", "10 +ra; 20 -ra; 30 +ra; 40 -ra", "ra 10 20; ra 30 40"},
		// What is told again, and of others, makes no other time.
		{"10.0.0.0/8 ra 5; 10.0.0.0/8 rb 6; 11.0.0.0/8 rz 9", "10 +ra; 15 +ra; 16 +rb; 17 +ry; 18 +rz; 19 -rb; 20 -ra; 25 -ra", "ra 10 20"},
		{"10.0.0.0/8 ra 5", "0 +ra; " + fmt.Sprint(api.End-1) + " -ra", "ra 0 " + fmt.Sprint(api.End-1)},
		{"10.0.0.0/8 ra 5", fmt.Sprint(api.End-1) + " +ra", "ra " + fmt.Sprint(api.End-1)},
		// Other prefixes have routers of their own.
		{"0.0.0.0/0 ra 5; 10.0.0.0/8 rb 6; 10.0.0.0/9 rc 6; ::/0 rd 6", "10 +ra; 10 +rc; 10 +rd; 11 +rb", "rb 11"},
	} {
		r, l := routers(c.r), health(c.l)
		is(t, c.l, all(route.Turns(r, l, net("10.0.0.0/8"))), all(turns(c.want), api.OK))
	}
}

// P5.2
func TestFirsts(t *testing.T) {
	r := routers("0.0.0.0/0 rx 1; 10.0.0.0/8 ra 5; 10.0.0.0/8 rb 9; 10.0.0.0/9 rb 9; 10.0.0.0/9 rx 10; ::/0 rb 1")
	l := health("10 +ra; 20 +rb; 30 -ra; 40 +rx; 50 -rb")
	lead := func(w []string) api.Lead { return api.Lead{Prefix: net(w[0]), Node: w[1]} }
	for at, want := range map[int]string{
		9:           "",
		10:          "10.0.0.0/8 ra",
		29:          "10.0.0.0/8 ra; 10.0.0.0/9 rb; ::/0 rb",
		30:          "10.0.0.0/8 rb; 10.0.0.0/9 rb; ::/0 rb",
		40:          "0.0.0.0/0 rx; 10.0.0.0/8 rb; 10.0.0.0/9 rb; ::/0 rb",
		50:          "0.0.0.0/0 rx; 10.0.0.0/9 rx",
		api.End - 1: "0.0.0.0/0 rx; 10.0.0.0/9 rx",
	} {
		is(t, fmt.Sprint("Firsts ", at), all(route.Firsts(r, l, at)), all(parts(want, lead), api.OK))
		for _, p := range []string{"0.0.0.0/0", "10.0.0.0/8", "10.0.0.0/9", "::/0"} {
			first, e := "", api.ErrNone
			for _, x := range parts(want, lead) {
				if x.Prefix == net(p) {
					first, e = x.Node, api.OK
				}
			}
			is(t, fmt.Sprint("First ", p, at), all(route.First(r, l, net(p), at)), all(first, e))
		}
	}
}

// P5.2
func TestOutage(t *testing.T) {
	r, l, p := routers("10.0.0.0/8 ra 5; 10.0.0.0/8 rb 5"), health("10 +ra; 20 -ra; 30 +rb; 40 +ra; 45 -rb"), net("10.0.0.0/8")
	for _, c := range []struct {
		w    api.Window
		want int
	}{
		{window(0, 100), 20}, {window(0, 10), 10}, {window(10, 20), 0}, {window(20, 30), 10}, {window(25, 26), 1}, {window(15, 35), 10},
		{window(30, api.End), 0}, {window(0, api.End), 20}, {window(25, 25), 0}, {window(api.End, api.End), 0},
	} {
		is(t, fmt.Sprint("Outage ", c.w), all(route.Outage(r, l, p, c.w)), all(c.want, api.OK))
	}
}

// P5.3
func TestWay(t *testing.T) {
	r := routers("0.0.0.0/0 rx 1; 10.0.0.0/8 ra 5; 10.0.0.0/24 rb 9; 10.0.0.7/32 rc 1; 10.1.0.0/16 rd 1; ::/0 rx 1; ::/96 ra 1")
	l := health("10 +ra; 20 +rb; 30 +rx; 40 +rc; 50 -rb; 60 -rx; 70 -ra")
	for _, c := range []struct {
		a    string
		at   int
		want string
	}{
		{"10.0.0.7", 9, ""}, {"10.0.0.7", 10, "10.0.0.0/8 ra"}, {"10.0.0.7", 20, "10.0.0.0/24 rb"}, {"10.0.0.7", 40, "10.0.0.7/32 rc"}, {"10.0.0.8", 40, "10.0.0.0/24 rb"}, {"10.0.0.8", 50, "10.0.0.0/8 ra"},
		{"10.1.0.0", 30, "10.0.0.0/8 ra"}, {"11.0.0.0", 29, ""}, {"11.0.0.0", 30, "0.0.0.0/0 rx"}, {"11.0.0.0", 60, ""},
		// Addresses of one length are in no prefixes of the other one.
		{"::a00:7", 40, "::/96 ra"}, {"::a00:7", 70, ""}, {"1::", 30, "::/0 rx"}, {"1::", 29, ""}, {"10.0.0.8", 70, ""},
	} {
		var want api.Lead
		for _, w := range parts(c.want, func(w []string) api.Lead { return api.Lead{Prefix: net(w[0]), Node: w[1]} }) {
			want = w
		}
		is(t, fmt.Sprint("Way ", c.a, c.at), all(route.Way(r, l, ip(c.a), c.at)), all(want, c.want != "", api.OK))
	}
}

// P5.3
func TestExits(t *testing.T) {
	r := routers("0.0.0.0/0 ra 3; 0.0.0.0/0 rb 7; 0.0.0.0/0 rc 7; 0.0.0.0/0 rd 9; 0.0.0.0/1 re 9; ::/0 ra 9; ::/0 re 9; ::/1 rd 9")
	l := health("10 +ra; 20 +rc; 30 +rb; 40 +rd; 40 +re; 50 -rc; 60 -rd")
	for _, c := range []struct {
		six  bool
		at   int
		want string
	}{
		{false, 9, ""}, {false, 10, "ra"}, {false, 20, "rc ra"}, {false, 30, "rb rc ra"}, {false, 40, "rd rb rc ra"}, {false, 50, "rd rb ra"}, {false, api.End - 1, "rb ra"},
		{true, 9, ""}, {true, 39, "ra"}, {true, 40, "ra re"},
	} {
		is(t, fmt.Sprint("Exits ", c.six, c.at), all(route.Exits(r, l, c.six, c.at)), all(words(c.want), api.OK))
	}
	is(t, "no such routers", all(route.Exits(r[4:5], l, false, 40)), all(words(""), api.OK))
	is(t, "of the other length", all(route.Exits(r[:5], l, true, 40)), all(words(""), api.OK))
}

// P5.1 to P5.3, Z4
func TestErrorsOfRouters(t *testing.T) {
	fewRouters := step{api.ErrLarge, func(in *input) { in.routers = routers("10.0.0.0/8 ra 1") }}
	rising := step{api.ErrOrder, func(in *input) { in.health = health("10 +ra; 20 -ra") }}
	aKey := step{api.ErrName, func(in *input) { in.node = "ra" }}
	moment := step{api.ErrArg, func(in *input) { in.at = 9 }}
	aWindow := step{api.ErrArg, func(in *input) { in.w = window(5, 6) }}
	aPrefix := step{api.ErrForm, func(in *input) { in.p = net("10.0.0.0/9") }}
	routed := step{api.ErrNone, func(in *input) { in.p = net("10.0.0.0/8") }}
	anAddr := step{api.ErrForm, func(in *input) { in.a = ip("10.0.0.1") }}
	isFirst := step{api.ErrNone, func(in *input) { in.at = 10 }}
	ladder(t, "CheckRouters", callOf("CheckRouters"), fewRouters)
	ladder(t, "CheckHealth", callOf("CheckHealth"), rising)
	ladder(t, "IsUp", callOf("IsUp"), rising, aKey, moment)
	ladder(t, "UpTime", callOf("UpTime"), rising, aKey, aWindow)
	ladder(t, "First", callOf("First"), fewRouters, rising, aPrefix, routed, moment, isFirst)
	ladder(t, "Firsts", callOf("Firsts"), fewRouters, rising, moment)
	ladder(t, "Turns", callOf("Turns"), fewRouters, rising, aPrefix, routed)
	ladder(t, "Outage", callOf("Outage"), fewRouters, rising, aPrefix, routed, aWindow)
	ladder(t, "Way", callOf("Way"), fewRouters, rising, anAddr, moment)
	ladder(t, "Exits", callOf("Exits"), fewRouters, rising, moment)
	r, l, p := routers("10.0.0.0/8 ra 1"), health("10 +ra"), net("10.0.0.0/8")
	for _, at := range []int{math.MinInt, -1, api.End, math.MaxInt} {
		is(t, "IsUp", all(route.IsUp(l, "ra", at)), all(false, api.ErrArg))
		is(t, "First", all(route.First(r, l, p, at)), all("", api.ErrArg))
		is(t, "Firsts", all(route.Firsts(r, l, at)), all([]api.Lead{}, api.ErrArg))
		is(t, "Way", all(route.Way(r, l, p.Addr, at)), all(api.Lead{}, false, api.ErrArg))
		is(t, "Exits", all(route.Exits(r, l, false, at)), all(words(""), api.ErrArg))
	}
	for _, w := range []api.Window{window(-1, 5), window(6, 5), window(0, api.End+1), window(math.MinInt, math.MaxInt), window(math.MaxInt, math.MinInt)} {
		is(t, "UpTime", all(route.UpTime(l, "ra", w)), all(0, api.ErrArg))
		is(t, "Outage", all(route.Outage(r, l, p, w)), all(0, api.ErrArg))
	}
	is(t, "another length", all(route.Turns(r, l, net("::/0"))), all([]api.Turn{}, api.ErrNone))
	is(t, "no prefix", all(route.Turns(r, l, api.Prefix{Addr: p.Addr, Bits: 33})), all([]api.Turn{}, api.ErrArg))
}

// upAt says whether a node is up, as the chapter tells it: as the last one says.
func upAt(l []api.Health, node string, at int) bool {
	up := false
	for _, h := range l {
		if h.Node == node && h.At <= at {
			up = h.Up
		}
	}
	return up
}

// firstsOf tells second by second who is the first router of a prefix.
func firstsOf(r []api.Router, l []api.Health, p api.Prefix) []string {
	var out []string
	first := ""
	for at := range until {
		isTold := slices.ContainsFunc(l, func(h api.Health) bool { return h.At == at })
		if isTold && (first == "" || !upAt(l, first, at)) {
			first = ""
			most := -1
			for _, x := range r {
				if x.Prefix == p && upAt(l, x.Node, at) && (x.Weight > most || x.Weight == most && x.Node < first) {
					first, most = x.Node, x.Weight
				}
			}
		}
		out = append(out, first)
	}
	return out
}

// P5.1 to P5.3: random routers are held against a second telling, second by second.
func TestRoutersOfMany(t *testing.T) {
	r := newChance(1)
	count := map[string]int{}
	for range 400 {
		x, l := r.routers(), r.health()
		is(t, "CheckRouters", route.CheckRouters(x), api.OK)
		is(t, "CheckHealth", route.CheckHealth(l), api.OK)
		from := r.Intn(until)
		w := window(from, from+r.Intn(until-from+1))
		for _, node := range someNodes {
			sum := 0
			for at := range until {
				up := upAt(l, node, at)
				is(t, "IsUp", all(route.IsUp(l, node, at)), all(up, api.OK))
				if up && w.From <= at && at < w.To {
					sum++
				}
			}
			is(t, "UpTime", all(route.UpTime(l, node, w)), all(sum, api.OK))
		}
		firsts := map[api.Prefix][]string{}
		for _, p := range someNets {
			if !slices.ContainsFunc(x, func(y api.Router) bool { return y.Prefix == p }) {
				is(t, "Turns", all(route.Turns(x, l, p)), all([]api.Turn{}, api.ErrNone))
				continue
			}
			firsts[p] = firstsOf(x, l, p)
			is(t, "Turns", all(route.Turns(x, l, p)), all(turnsOf(firsts[p]), api.OK))
			out := 0
			for at := w.From; at < w.To; at++ {
				if firsts[p][at] == "" {
					out++
				}
			}
			is(t, "Outage", all(route.Outage(x, l, p, w)), all(out, api.OK))
			count[fmt.Sprint("turns ", min(len(turnsOf(firsts[p])), 3))]++
			// What follows: the lengths of Turns in a window and Outage add up to the window.
			list, _ := route.Turns(x, l, p)
			for _, turn := range list {
				out += max(0, min(turn.To, w.To)-max(turn.From, w.From))
			}
			is(t, "all of the window", out, w.To-w.From)
		}
		sameWays(t, r, x, l, firsts, count)
	}
	for what, least := range map[string]int{"turns 0": 100, "turns 1": 100, "turns 2": 100, "turns 3": 100, "a way": 1_000, "no way": 1_000, "two exits": 100} {
		if count[what] < least {
			t.Errorf("%s: %d times", what, count[what])
		}
	}
}

// sameWays holds what depends on the first routers of all prefixes at a moment against a second telling.
func sameWays(t *testing.T, r chance, x []api.Router, l []api.Health, firsts map[api.Prefix][]string, count map[string]int) {
	for at := range until {
		var leads []api.Lead
		for _, p := range someNets {
			if firsts[p] == nil {
				continue
			}
			node := firsts[p][at]
			is(t, "First", all(route.First(x, l, p, at)), all(node, map[bool]api.Errno{true: api.ErrNone}[node == ""]))
			if node != "" {
				leads = append(leads, api.Lead{Prefix: p, Node: node})
			}
		}
		is(t, "Firsts", all(route.Firsts(x, l, at)), all(leads, api.OK))
		for _, a := range someAddrs {
			way := api.Lead{Prefix: api.Prefix{Bits: -1}}
			for _, lead := range leads {
				if in, _ := addr.Contains(lead.Prefix, a); in && lead.Prefix.Bits > way.Prefix.Bits {
					way = lead
				}
			}
			if way.Node == "" {
				count["no way"]++
				is(t, "Way", all(route.Way(x, l, a, at)), all(api.Lead{}, false, api.OK))
			} else {
				count["a way"]++
				is(t, "Way", all(route.Way(x, l, a, at)), all(way, true, api.OK))
			}
		}
		six := r.Intn(2) == 0
		var exits []string
		for weight := 1_000; weight >= 0; weight-- {
			for _, y := range x {
				if y.Weight == weight && y.Prefix == (api.Prefix{Addr: api.Addr{Six: six}}) && upAt(l, y.Node, at) {
					exits = append(exits, y.Node)
				}
			}
		}
		is(t, "Exits", all(route.Exits(x, l, six, at)), all(exits, api.OK))
		if len(exits) > 1 {
			count["two exits"]++
		}
	}
}
