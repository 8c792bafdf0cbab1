package control_test

import (
	"fmt"
	"math"
	"slices"
	"testing"

	"holloway/api"
	"holloway/control"
	"holloway/netmap"
	"holloway/node"
	"holloway/posture"
	"holloway/route"
	"holloway/rule"
)

// notMoments are numbers that are no moments.
var notMoments = []int{math.MinInt, -1, api.End, math.MaxInt}

// A teller tells worlds by asking all chapters anew at each moment.
type teller struct{ b api.Book }

// world is the world at a moment, told word for word.
func (o teller) world(at int) (api.World, api.Errno) {
	s := o.b.Setting
	nodes := must(node.Nodes(s.Directory, o.b.Steps, s.Places, at))
	var keys []string
	routes := map[string][]api.Prefix{}
	for _, n := range nodes {
		keys = append(keys, n.Key)
		routes[n.Key] = n.Routes
	}
	met, e := posture.Facts(s.Postures, o.b.Claims, s.Fresh, keys, at)
	if e != api.OK {
		return api.World{}, e
	}
	var given []api.Fact
	for _, f := range must(posture.Given(s.Access, o.b.Askings, at)) {
		if slices.Contains(keys, f.Node) {
			given = append(given, f)
		}
	}
	facts, e := posture.Both(met, given)
	if e != api.OK {
		return api.World{}, e
	}
	w := api.World{Scene: api.Scene{Nodes: nodes, Policy: s.Policy, Facts: facts}, Suffix: s.Suffix}
	for _, l := range must(route.Firsts(s.Routers, o.b.Health, at)) {
		if slices.Contains(routes[l.Node], l.Prefix) {
			w.Firsts = append(w.Firsts, api.First{Prefix: l.Prefix, Node: l.Node})
		}
	}
	return w, api.OK
}

// worlds are those at all moments before lastChange.
func (o teller) worlds() []api.World {
	return repeat(lastChange, func(at int) api.World { return must(o.world(at)) })
}

// P10.2
func TestWorldAt(t *testing.T) {
	b := day()
	right(t, b)
	world := func(at int) api.World { return must(control.WorldAt(b, at)) }
	is(t, "nothing yet", world(0), api.World{Scene: api.Scene{Policy: b.Setting.Policy}, Suffix: "corp.net"})
	n1 := api.Node{Key: "n1", User: "ann", Name: "mac", Addrs: ips("100.64.0.1 fd00::1")}
	is(t, "a node", world(5).Scene.Nodes, []api.Node{n1})
	is(t, "its router is not there", world(8).Firsts, []api.First{})
	lan := []api.Prefix{net("10.0.0.0/8")}
	n2 := api.Node{Key: "n2", User: "bob", Name: "mac", Addrs: ips("100.64.0.2"), Routes: lan}
	is(t, "two nodes", world(9).Scene.Nodes, []api.Node{n1, n2})
	is(t, "facts of claims and of askings", world(14).Scene.Facts, []api.Fact{{Node: "n1", Posture: "safe"}, {Node: "n2", Posture: "root"}})
	is(t, "facts of claims alone", world(24).Scene.Facts, []api.Fact{{Node: "n1", Posture: "safe"}})
	is(t, "a claim that changes it", world(31).Scene.Facts, []api.Fact{})
	is(t, "again", world(33).Scene.Facts, []api.Fact{{Node: "n1", Posture: "safe"}})
	is(t, "a claim that is too old", world(50).Scene.Facts, []api.Fact{})
	n2.Name = "pc"
	n3 := api.Node{Key: "n3", User: "ann", Name: "box", Addrs: ips("100.64.0.3"), Routes: []api.Prefix{net("10.1.0.0/16"), lan[0]}}
	is(t, "another name", world(30).Scene.Nodes, []api.Node{n1, n2, n3})
	is(t, "n3 was up first", world(30).Firsts, []api.First{{Prefix: lan[0], Node: "n3"}, {Prefix: net("10.1.0.0/16"), Node: "n3"}})
	is(t, "n3 is down", world(40).Firsts, []api.First{{Prefix: lan[0], Node: "n2"}})
	n3.User, n3.Tags = "", words("web")
	is(t, "tags", world(60).Scene.Nodes, []api.Node{n1, n2, n3})
	is(t, "n3 does not take over", world(70).Firsts, []api.First{{Prefix: lan[0], Node: "n2"}, {Prefix: net("10.1.0.0/16"), Node: "n3"}})
	is(t, "n1 ends", world(105).Scene.Nodes, []api.Node{n2, n3})
	is(t, "n2 ends, and n3 is not asked", world(109).Firsts, []api.First{{Prefix: net("10.1.0.0/16"), Node: "n3"}})
	is(t, "the end", world(api.End-1).Scene.Nodes, []api.Node{n3})
	is(t, "the policy", world(77).Scene.Policy, b.Setting.Policy)
}

// P10.2: a first router counts only if it is live, and has the route; another one does not come in its place.
func TestFirsts(t *testing.T) {
	b := api.Book{Setting: office(), Steps: steps("5 s1 1 join ann n2 - 0a mac; 6 s1 2 join ann n3 - 0b mac"), Health: health("1 up n2; 1 up n3")}
	is(t, "n3 is not there", must(control.WorldAt(b, 5)).Firsts, []api.First{})
	is(t, "n3 is there", must(control.WorldAt(b, 6)).Firsts, []api.First{{Prefix: net("10.0.0.0/8"), Node: "n3"}, {Prefix: net("10.1.0.0/16"), Node: "n3"}})
	b.Setting.Places = places("n2 10.0.0.0/8; n3 10.1.0.0/17 10.0.0.0/9 10.0.0.0/7")
	is(t, "n3 has other routes", must(control.WorldAt(b, 6)).Firsts, []api.First{})
	b.Setting.Places = places("n2 10.0.0.0/8")
	is(t, "n3 has no place", must(control.WorldAt(b, 6)).Firsts, []api.First{})
}

// P10.2: facts that are met and given are there once; those of nodes that are not live are not there.
func TestFactsOfWorlds(t *testing.T) {
	b := api.Book{
		Setting: office(),
		Steps:   steps("5 s1 1 join ann n1 - 0a mac; 20 s1 2 expire ann n1; 25 s1 3 renew ann n1 0b"),
		Claims:  claims("1 n1 version v2.0.0.0; 1 n2 version v2.0.0.0"),
		Askings: askings("2 ask k1 cid n1 root 30; 2 ask k2 bob n1 root 30; 2 ask k3 cid n2 root 30; 3 yes k1 ann; 4 yes k2 ann; 4 yes k3 ann"),
	}
	b.Setting.Access = access("new ann 1 20 30; root ann,bob 1 20 30")
	b.Askings = append(b.Askings, askings("6 ask k4 cid n1 new 9; 7 yes k4 ann")...)
	right(t, b)
	facts := func(at int) []api.Fact { return must(control.WorldAt(b, at)).Scene.Facts }
	both := []api.Fact{{Node: "n1", Posture: "new"}, {Node: "n1", Posture: "root"}}
	is(t, "nobody is there", facts(4), []api.Fact{})
	is(t, "n1 is there", facts(5), both)
	is(t, "it is given, too", facts(7), both)
	is(t, "it is given no more", facts(16), both)
	is(t, "n1 has ended", facts(20), []api.Fact{})
	is(t, "n1 is there again", facts(25), both)
	is(t, "the second one lasts", facts(33), both)
	is(t, "both have ended", facts(34), both[:1])
	is(t, "the claim is too old", facts(41), []api.Fact{})
}

// P10.2: worlds are as all chapters tell them, and are right.
func TestWorldsOfMany(t *testing.T) {
	r := newChance(2)
	var nodes, facts, firsts int
	for range 150 {
		b := r.book()
		right(t, b)
		o := teller{b}
		for _, at := range []int{0, r.Intn(20), r.Intn(lastTold), r.Intn(lastChange), lastChange, api.End - 1} {
			w, e := control.WorldAt(b, at)
			is(t, "WorldAt", all(w, e), all(o.world(at)))
			is(t, "CheckWorld", netmap.CheckWorld(w), api.OK)
			nodes, facts, firsts = nodes+len(w.Scene.Nodes), facts+len(w.Scene.Facts), firsts+len(w.Firsts)
		}
	}
	if nodes < 500 || facts < 150 || firsts < 100 {
		t.Errorf("%d nodes, %d facts, %d firsts", nodes, facts, firsts)
	}
}

// P10.2
func TestPermitted(t *testing.T) {
	b := day()
	for _, c := range []struct {
		flow string
		at   int
		want bool
	}{
		{"6 100.64.0.1 7 100.64.0.2 80", 9, true},
		{"6 100.64.0.1 7 100.64.0.2 80", 8, false},
		{"6 100.64.0.1 7 100.64.0.2 80", 104, true},
		{"6 100.64.0.1 7 100.64.0.2 80", 105, false},
		{"6 100.64.0.1 7 100.64.0.2 81", 9, false},
		{"17 100.64.0.1 7 100.64.0.2 80", 9, false},
		{"6 100.64.0.2 7 100.64.0.1 80", 9, false},
		{"1 100.64.0.1 0 10.0.0.1 0", 11, false},
		{"1 100.64.0.1 0 10.0.0.1 0", 12, true},
		{"1 100.64.0.1 0 11.0.0.1 0", 12, false},
		{"1 100.64.0.1 0 10.0.0.1 0", 31, false},
		{"1 100.64.0.2 0 10.0.0.1 0", 13, false},
		{"1 100.64.0.2 0 10.0.0.1 0", 14, true},
		{"1 100.64.0.2 0 10.0.0.1 0", 24, false},
	} {
		is(t, c.flow, all(control.Permitted(b, flow(c.flow), c.at)), all(c.want, api.OK))
	}
}

// P10.2
func TestNextChange(t *testing.T) {
	b := day()
	want := []int{5, 9, 12, 14, 20, 24, 30, 31, 33, 40, 50, 60, 70, 105, 109}
	at := 0
	for _, next := range want {
		for _, from := range []int{at, next - 1} {
			is(t, "NextChange", all(control.NextChange(b, from)), all(next, true, api.OK))
		}
		at = next
	}
	for _, from := range []int{at, api.End - 2, api.End - 1} {
		is(t, "NextChange", all(control.NextChange(b, from)), all(0, false, api.OK))
	}
	is(t, "nothing written down", all(control.NextChange(api.Book{Setting: office()}, 0)), all(0, false, api.OK))
	b = api.Book{Setting: office(), Steps: steps("0 s1 1 join ann n1 - 0a mac; 345599999 s1 2 name ann n1 pc")}
	b.Setting.Directory.Life = api.End
	is(t, "what there is from the beginning is no change", all(control.NextChange(b, 0)), all(345_599_999, true, api.OK))
	b.Steps[1].At = api.End - 1
	is(t, "the last moment", all(control.NextChange(b, 0)), all(api.End-1, true, api.OK))
	is(t, "the last moment", all(control.NextChange(b, api.End-1)), all(0, false, api.OK))
}

// P10.2: what is written down, and changes nothing of the world.
func TestNoChange(t *testing.T) {
	for name, more := range map[string]api.Book{
		"a name and the same name":     {Steps: steps("20 s1 2 name ann n1 box; 20 s1 3 name ann n1 mac")},
		"another key":                  {Steps: steps("20 s1 2 renew ann n1 0b; 120 s1 3 renew ann n1 0c; 220 s1 4 expire ann n1; 220 s2 1 renew ann n1 0d")},
		"it comes and goes":            {Steps: steps("20 s1 2 join ann n2 - 0b mac; 20 s1 3 gone ann n2")},
		"keys for joining":             {Steps: steps("20 s1 2 key ann j - 90 1 yes; 30 s1 3 revoke ann j")},
		"what is refused":              {Steps: steps("20 s1 2 join ann n1 - 0b mac; 21 s1 3 approve ann n1; 22 s1 4 tag cid n1 web")},
		"one that is not approved":     {},
		"claims that change nothing":   {Claims: claims("20 n1 disk true; 21 n1 level 3; 22 n2 disk true; 22 n2 level 9")},
		"claims that exclude theirs":   {Claims: claims("20 n1 disk true; 20 n1 level 3")},
		"what is asked for":            {Askings: askings("20 ask k cid n1 root 9; 21 no k cid; 22 ask l cid n2 root 9; 23 yes l ann; 24 stop l ann")},
		"what is given for no time":    {Askings: askings("20 ask k cid n1 root 9; 21 yes k ann; 21 stop k bob")},
		"health of others":             {Health: health("20 up n3; 21 up n1; 22 down n3; 23 up n2")},
		"health that changes nothing":  {Health: health("20 down n2; 21 down n3")},
		"a router and another one":     {Health: health("20 up n2; 20 up n3; 21 down n2")},
		"nothing":                      {},
		"a claim about an unknown one": {Claims: claims("20 zed disk true")},
	} {
		b := more
		b.Setting = office()
		b.Steps = append(steps("10 s1 1 join ann n1 - 0a mac"), b.Steps...)
		if name == "one that is not approved" {
			b.Setting.Directory.Approve = true
		}
		right(t, b)
		want := all(110, true, api.OK)
		switch name {
		case "another key":
			want = all(320, true, api.OK)
		case "one that is not approved":
			want = all(0, false, api.OK)
		}
		is(t, name, all(control.NextChange(b, 10)), want)
	}
}

// P10.2: what changes at a moment at which something else changes back is a change.
func TestChangesAtOnce(t *testing.T) {
	b := api.Book{
		Setting: office(),
		Steps:   steps("0 s1 1 join ann n1 - 0a mac"),
		Claims:  claims("1 n1 version v2.0.0.0"),
		Askings: askings("40 ask k cid n1 new 9; 41 yes k ann"),
	}
	b.Setting.Access = access("new ann 1 20 30")
	is(t, "it is given when it is met no more", all(control.NextChange(b, 1)), all(50, true, api.OK))
	b.Claims = append(b.Claims, claims("50 n1 version v2.0.0.0")...)
	is(t, "it is met when it is given no more", all(control.NextChange(b, 1)), all(90, true, api.OK))
	b.Steps = append(b.Steps, steps("60 s1 2 name ann n1 box; 60 s2 1 name ann n1 pc")...)
	is(t, "a name", all(control.NextChange(b, 1)), all(60, true, api.OK))
	b.Health = health("30 up n2")
	b.Steps = append(steps("0 s0 1 join bob n2 - ff mac"), b.Steps...)
	right(t, b)
	is(t, "a router", all(control.NextChange(b, 1)), all(30, true, api.OK))
}

// P10.2: all that can be told can be told at the last moment.
func TestLastMoment(t *testing.T) {
	const last = api.End - 1
	at := fmt.Sprint(last, " ")
	b := api.Book{
		Setting: office(),
		Steps:   steps("345600000 s1 1 join bob n2 - 0a mac; " + at + "s1 2 join ann n1 - 0b pc"),
		Claims:  claims(at + "n1 disk true; " + at + "n1 level 5"),
		Askings: askings(at + "ask k1 abe n2 root 30; " + at + "yes k1 ann"),
		Health:  health(at + "up n2"),
	}
	b.Setting.Directory.Life = api.End
	right(t, b)
	is(t, "NextChange", all(control.NextChange(b, 345_600_000)), all(last, true, api.OK))
	w := must(control.WorldAt(b, last))
	is(t, "facts", w.Scene.Facts, []api.Fact{{Node: "n1", Posture: "safe"}, {Node: "n2", Posture: "root"}})
	is(t, "the rest", all(len(w.Scene.Nodes), len(w.Firsts)), all(2, 1))
	f := flow("1 100.64.0.1 0 10.0.0.9 0")
	is(t, "When", all(control.When(b, f, window(0, api.End))), all([]api.Window{{From: last, To: api.End}}, api.OK))
	is(t, "Told", len(must(control.Told(b, "n1", []int{last - 1, last}))[1].Map.Peers), 1)
	b.Steps = b.Steps[:1]
	b.Claims, b.Health = nil, nil
	is(t, "what is given alone", all(control.NextChange(b, 345_600_000)), all(last, true, api.OK))
}

// P10.2: the next change is the next moment at which all chapters tell another world.
func TestNextChangeOfMany(t *testing.T) {
	r := newChance(3)
	changes := 0
	for range 150 {
		b := r.book()
		var worlds []string
		for _, w := range (teller{b}).worlds() {
			worlds = append(worlds, fmtOf(w))
		}
		for at := 0; at < lastChange; at += 1 + r.Intn(8) {
			next := at + 1
			for next < lastChange && worlds[next] == worlds[next-1] {
				next++
			}
			want := all(next, true, api.OK)
			if next == lastChange {
				want = all(0, false, api.OK)
			} else {
				changes++
			}
			is(t, "NextChange", all(control.NextChange(b, at)), want)
		}
	}
	if changes < 1_000 {
		t.Errorf("%d changes", changes)
	}
}

// P10.2
func TestWhen(t *testing.T) {
	b := day()
	web, lan := flow("6 100.64.0.1 7 100.64.0.2 80"), flow("1 100.64.0.1 0 10.0.0.1 0")
	for _, c := range []struct {
		f    api.Flow
		w    api.Window
		want []api.Window
	}{
		{web, window(0, api.End), []api.Window{{From: 9, To: 105}}},
		{web, window(9, 105), []api.Window{{From: 9, To: 105}}},
		{web, window(0, 9), nil},
		{web, window(105, api.End), nil},
		{web, window(8, 10), []api.Window{{From: 9, To: 10}}},
		{web, window(50, 51), []api.Window{{From: 50, To: 51}}},
		{web, window(50, 50), nil},
		{web, window(api.End, api.End), nil},
		{lan, window(0, api.End), []api.Window{{From: 12, To: 31}, {From: 33, To: 50}}},
		{lan, window(20, 40), []api.Window{{From: 20, To: 31}, {From: 33, To: 40}}},
		{flow("6 1.1.1.1 7 1.1.1.2 80"), window(0, api.End), nil},
	} {
		is(t, fmtOf(c), all(control.When(b, c.f, c.w)), all(c.want, api.OK))
	}
	b.Setting.Policy = policy("allow * -> *")
	is(t, "always", all(control.When(b, lan, window(0, api.End))), all([]api.Window{{From: 0, To: api.End}}, api.OK))
}

// P10.2: the windows of When are those in which all chapters together permit it, as few as possible.
func TestWhenOfMany(t *testing.T) {
	r := newChance(4)
	several, none := 0, 0
	for range 150 {
		b := r.book()
		worlds := (teller{b}).worlds()
		for range 12 {
			f, w := r.flow(), r.window()
			permitted := repeat(lastChange, func(at int) bool { return must(rule.Permits(worlds[at].Scene, f)) })
			var want []api.Window
			for at := w.From; at < min(w.To, lastChange); at++ {
				is(t, "Permitted", at%7 > 0 || equal(all(control.Permitted(b, f, at)), all(permitted[at], api.OK)), true)
				if !permitted[at] {
					continue
				}
				if n := len(want); n > 0 && want[n-1].To == at {
					want[n-1].To++
				} else {
					want = append(want, window(at, at+1))
				}
			}
			if n := len(want); n > 0 && want[n-1].To == lastChange {
				want[n-1].To = w.To
			}
			is(t, "When", all(control.When(b, f, w)), all(want, api.OK))
			if len(want) > 1 {
				several++
			}
			if len(want) == 0 {
				none++
			}
		}
	}
	if several < 20 || none < 200 {
		t.Errorf("%d with several windows, %d with none", several, none)
	}
}

// P10.2, Z3, Z4: with 2,001 facts there is no world.
func TestTooManyFacts(t *testing.T) {
	// The last one of 29 nodes with 69 postures has one that is too much.
	b := crowd(29, 69)
	right(t, b)
	f := flow("6 0.0.0.1 7 0.0.0.2 80")
	w, e := control.WorldAt(b, 1_027)
	is(t, "just not too many", all(len(w.Scene.Facts), e), all(28*69, api.OK))
	for _, at := range []int{1_028, 1_499} {
		is(t, "WorldAt", all(control.WorldAt(b, at)), all(api.World{}, api.ErrLarge))
		is(t, "Permitted", all(control.Permitted(b, f, at)), all(false, api.ErrLarge))
		is(t, "NextChange", all(control.NextChange(b, at)), all(0, false, api.ErrLarge))
		is(t, "When", all(control.When(b, f, window(at, at+1))), all([]api.Window{}, api.ErrLarge))
	}
	is(t, "it is over", errnoOf(all(control.WorldAt(b, 1_500))), api.OK)
	is(t, "the moment behind it", all(control.NextChange(b, 1_027)), all(0, false, api.ErrLarge))
	is(t, "a change ahead of it", all(control.NextChange(b, 1_026)), all(1_027, true, api.OK))
	for _, c := range []struct {
		w api.Window
		e api.Errno
	}{
		{window(0, 1_028), api.OK},
		{window(0, 1_029), api.ErrLarge},
		{window(1_028, 1_028), api.OK},
		{window(1_499, 1_501), api.ErrLarge},
		{window(1_500, api.End), api.OK},
		{window(0, api.End), api.ErrLarge},
	} {
		is(t, fmtOf(c.w), all(control.When(b, f, c.w)), all([]api.Window{}, c.e))
	}
	b.Steps = slices.Delete(b.Steps, 3, 4)
	is(t, "one of them is not live", errnoOf(all(control.WorldAt(b, 1_028))), api.OK)
}

// P10.2: facts that are met and those that are given are too many together.
func TestTooManyFactsTogether(t *testing.T) {
	b := crowd(40, 50)
	b.Setting.Directory.Users = words("ann bob")
	b.Setting.Access = access("k0000 ann 1 5 90; root ann 1 5 90")
	b.Askings = askings("1200 ask k1 bob k0003 k0000 20; 1201 yes k1 ann; 1210 ask k2 bob k0003 root 20; 1211 yes k2 ann")
	right(t, b)
	w, e := control.WorldAt(b, 1_201)
	is(t, "what is met is given", all(len(w.Scene.Facts), e), all(2_000, api.OK))
	is(t, "it is no change", all(control.NextChange(b, 1_039)), all(0, false, api.ErrLarge))
	is(t, "the last one", errnoOf(all(control.WorldAt(b, 1_210))), api.OK)
	is(t, "one is too much", all(control.WorldAt(b, 1_211)), all(api.World{}, api.ErrLarge))
	is(t, "it is over", errnoOf(all(control.WorldAt(b, 1_231))), api.OK)
	is(t, "When", all(control.When(b, flow("6 0.0.0.1 7 0.0.0.2 80"), window(1_100, 1_212))), all([]api.Window{}, api.ErrLarge))
	is(t, "When", all(control.When(b, flow("6 0.0.0.1 7 0.0.0.2 80"), window(1_100, 1_211))), all([]api.Window{}, api.OK))
	b.Askings[2].Node = "zed"
	is(t, "nobody that is there", errnoOf(all(control.WorldAt(b, 1_211))), api.OK)
	is(t, "the first claim ends", all(control.NextChange(b, 1_039)), all(1_500, true, api.OK))
}

// P10.2: between two changes nothing of what is permitted, of maps and of names changes.
func TestBetweenChanges(t *testing.T) {
	r := newChance(10)
	spans, keys := 0, 0
	for range 60 {
		b := r.book()
		f := r.flow()
		told := func(at int) string {
			out := fmtOf(all(control.Permitted(b, f, at))) + fmtOf(all(control.NamesOf(b, at)))
			for _, key := range someNodes {
				out += fmtOf(all(control.MapOf(b, key, at)))
			}
			return out
		}
		who := func(at int) string { return fmtOf(all(control.WhoIs(b, ip("100.64.0.1"), at))) }
		for at, more := 0, true; more; {
			next, changes, e := control.NextChange(b, at)
			is(t, "NextChange", e, api.OK)
			last := lastChange
			if changes {
				last = next - 1
			}
			if last > at {
				spans++
				if told(at) != told(last) || told(at) != told(at+r.Intn(last-at)) {
					t.Errorf("%+v: it changes from %d to %d", b, at, last)
				}
				if who(at) != who(last) {
					keys++
				}
			}
			at, more = next, changes
		}
	}
	if spans < 200 || keys == 0 {
		t.Errorf("%d times without a change, %d with another key", spans, keys)
	}
}
