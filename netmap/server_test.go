package netmap_test

import (
	"fmt"
	"math"
	"slices"
	"strings"
	"testing"

	"holloway/api"
	"holloway/netmap"
)

const pair = "a a ann 100.64.0.1; b box bob 100.64.0.2 10.0.0.0/8"

// serve makes a server for a test; it stops the test if there is an error.
func serve(w api.World, keep int) *netmap.Server {
	s, e := netmap.NewServer(w, keep)
	if e != api.OK {
		panic(e)
	}
	return s
}

// P8.5, Z3, Z4
func TestNewServer(t *testing.T) {
	for _, keep := range []int{1, 7, api.MaxKept} {
		s, e := netmap.NewServer(world(pair, "", "", ""), keep)
		is(t, "NewServer", e, api.OK)
		is(t, "Version", s.Version(), 1)
	}
	for _, c := range []struct {
		suffix string
		keep   int
		e      api.Errno
	}{
		{"x", 0, api.ErrArg},
		{"x", api.MaxKept + 1, api.ErrArg},
		{"x", math.MinInt, api.ErrArg},
		{"x", math.MaxInt, api.ErrArg},
		{"X", 1, api.ErrForm},
		{"X", 0, api.ErrForm},
	} {
		s, e := netmap.NewServer(api.World{Suffix: c.suffix}, c.keep)
		is(t, "NewServer", all(s == nil, e), all(true, c.e))
	}
}

// P8.5
func TestServer(t *testing.T) {
	s := serve(world(pair, "", "", ""), 3)
	alone := told("a a ann 100.64.0.1", "", "")
	both := told("a a ann 100.64.0.1", "b box 100.64.0.2", "")
	is(t, "nothing yet", all(s.Poll("a", 0)), all(api.Update{Version: 1, Whole: true, Map: alone}, api.OK))
	is(t, "no news", all(s.Poll("a", 1)), all(api.Update{Version: 1}, api.OK))
	is(t, "Change", all(s.Change(world(pair, "allow node:a -> node:b", "", ""))), all(2, api.OK))
	is(t, "a peer", all(s.Poll("a", 1)), all(api.Update{Version: 2, Patch: api.Patch{Put: both.Peers}}, api.OK))
	is(t, "no news", all(s.Poll("a", 2)), all(api.Update{Version: 2}, api.OK))
	is(t, "nothing yet", all(s.Poll("a", 0)), all(api.Update{Version: 2, Whole: true, Map: both}, api.OK))
	is(t, "rows", all(s.Poll("b", 1)), all(api.Update{Version: 2, Patch: api.Patch{Put: peers("a a 100.64.0.1"), HasFilters: true, Filters: rows("any 100.64.0.1/32 100.64.0.2/32 0-65535")}}, api.OK))
	is(t, "Change to the same", all(s.Change(world(pair, "allow node:a -> node:b", "", ""))), all(3, api.OK))
	is(t, "one for both", all(s.Poll("a", 1)), all(api.Update{Version: 3, Patch: api.Patch{Put: both.Peers}}, api.OK))
	is(t, "Change", all(s.Change(world(pair, "", "", ""))), all(4, api.OK))
	is(t, "it is not kept", all(s.Poll("a", 1)), all(api.Update{Version: 4, Whole: true, Map: alone}, api.OK))
	is(t, "a peer goes", all(s.Poll("a", 2)), all(api.Update{Version: 4, Patch: api.Patch{Gone: words("b")}}, api.OK))
	is(t, "Version", s.Version(), 4)
	is(t, "Behind", all(s.Behind([]int{4, 0, 1, 2, 3, 2})), all([]int{0, -1, -1, 2, 1, 2}, api.OK))
	is(t, "Behind", all(s.Behind(nil)), all([]int{}, api.OK))
}

// P8.5, Z3, Z4: what is wrong changes nothing.
func TestServerErrors(t *testing.T) {
	s := serve(world(pair, "allow node:a -> node:b", "", ""), 2)
	wrong := world(pair, "", "", "")
	wrong.Firsts = make([]api.First, 1)
	wrong.Suffix = ""
	is(t, "Change", all(s.Change(wrong)), all(0, api.ErrNone))
	is(t, "Version", s.Version(), 1)
	for _, c := range []struct {
		node    string
		version int
		e       api.Errno
	}{
		{"A", 1, api.ErrName},
		{"", 9, api.ErrName},
		{"z", 9, api.ErrArg},
		{"a", 2, api.ErrArg},
		{"a", -1, api.ErrArg},
		{"a", math.MinInt, api.ErrArg},
		{"a", math.MaxInt, api.ErrArg},
		{"z", 1, api.ErrNone},
		{"z", 0, api.ErrNone},
	} {
		is(t, c.node, all(s.Poll(c.node, c.version)), all(api.Update{}, c.e))
	}
	for _, l := range [][]int{{2}, {-1}, {0, 1, 2}, {math.MinInt}, {1, math.MaxInt}} {
		is(t, "Behind", all(s.Behind(l)), all([]int{}, api.ErrArg))
	}
	is(t, "Behind", all(s.Behind(slices.Repeat([]int{9}, api.MaxPollers+1))), all([]int{}, api.ErrLarge))
	is(t, "Behind", all(s.Behind(slices.Repeat([]int{1}, api.MaxPollers))), all(make([]int, api.MaxPollers), api.OK))
	is(t, "nothing has changed", all(s.Poll("a", 1)), all(api.Update{Version: 1}, api.OK))
}

// P8.5: a node that was not there, or that had no map, is told all; a node that has none now is told so.
func TestNodesThatComeAndGo(t *testing.T) {
	s := serve(world(pair, "", "", ""), 9)
	s.Change(world(pair+"; c c eve", wide(), "", ""))
	s.Change(world("b box bob 100.64.0.2; c c eve", "", "", ""))
	is(t, "it was there", all(s.Poll("b", 1)), all(api.Update{Version: 3, Patch: api.Patch{HasSelf: true, Self: node("b box bob 100.64.0.2")}}, api.OK))
	is(t, "it had no map", all(s.Poll("b", 2)), all(api.Update{Version: 3, Whole: true, Map: told("b box bob 100.64.0.2", "", "")}, api.OK))
	is(t, "it was not there", all(s.Poll("c", 1)), all(api.Update{Version: 3, Whole: true, Map: told("c c eve", "", "")}, api.OK))
	is(t, "it was there", all(s.Poll("c", 2)), all(api.Update{Version: 3}, api.OK))
	is(t, "it is gone", all(s.Poll("a", 1)), all(api.Update{}, api.ErrNone))
	s.Change(world(pair, wide(), "", ""))
	is(t, "it has no map", all(s.Poll("b", 3)), all(api.Update{}, api.ErrLarge))
	is(t, "it has no map", all(s.Poll("b", 0)), all(api.Update{}, api.ErrLarge))
	u, e := s.Poll("a", 1)
	is(t, "it was gone meanwhile", all(u.Whole, u.Version, e), all(false, 4, api.OK))
	u, e = s.Poll("a", 3)
	is(t, "it was gone", all(u.Whole, u.Version, e), all(true, 4, api.OK))
}

// P8.5, Z3, Z4
func TestTake(t *testing.T) {
	a, b := told("m mac ann", "b box", ""), told("m mac ann", "c pad", "")
	p := api.Patch{Gone: words("b"), Put: peers("c pad")}
	for _, c := range []struct {
		name    string
		m       api.Map
		have    int
		u       api.Update
		want    api.Map
		version int
		e       api.Errno
	}{
		{"Whole", a, 3, api.Update{Version: 7, Whole: true, Map: b}, b, 7, api.OK},
		{"the same version", a, 7, api.Update{Version: 7, Whole: true, Map: b}, b, 7, api.OK},
		{"Whole, with nothing before", api.Map{}, 0, api.Update{Version: 7, Whole: true, Map: b}, b, 7, api.OK},
		{"Whole, with a patch that counts for nothing", a, 3, api.Update{Version: 7, Whole: true, Map: b, Patch: api.Patch{Gone: words("A")}}, b, 7, api.OK},
		{"a patch", a, 3, api.Update{Version: 4, Patch: p}, b, 4, api.OK},
		{"a patch, with a map that counts for nothing", a, 3, api.Update{Version: 4, Patch: p, Map: api.Map{Suffix: "X"}}, b, 4, api.OK},
		{"no news", a, 3, api.Update{Version: 3}, a, 3, api.OK},
		{"low versions", a, math.MinInt, api.Update{Version: -5}, a, -5, api.OK},
		{"an older version", a, 8, api.Update{Version: 7, Whole: true, Map: b}, api.Map{}, 0, api.ErrOrder},
		{"an older version, with nothing right", api.Map{}, math.MaxInt, api.Update{Version: math.MinInt, Whole: true}, api.Map{}, 0, api.ErrOrder},
		{"an older version, of a patch", api.Map{}, 1, api.Update{}, api.Map{}, 0, api.ErrOrder},
		{"no map", a, 3, api.Update{Version: 7, Whole: true}, api.Map{}, 0, api.ErrName},
		{"a patch, with nothing before", api.Map{}, 0, api.Update{Version: 1, Patch: api.Patch{Gone: words("A b")}}, api.Map{}, 0, api.ErrName},
		{"a wrong patch", a, 0, api.Update{Version: 1, Patch: api.Patch{Suffix: "x"}}, api.Map{}, 0, api.ErrForm},
		{"a patch for another map", b, 0, api.Update{Version: 1, Patch: p}, api.Map{}, 0, api.ErrNone},
		{"a patch that makes no map", a, 0, api.Update{Version: 1, Patch: api.Patch{Put: peers("m mac")}}, api.Map{}, 0, api.ErrTwice},
	} {
		is(t, c.name, all(netmap.Take(c.m, c.have, c.u)), all(c.want, c.version, c.e))
	}
}

// A client is a node that asks sometimes, with the map and the version that it has.
type client struct {
	node    string
	m       api.Map
	version int
}

// updateOf is what a server that has kept all worlds says, told by Make and Between.
func updateOf(worlds []api.World, keep int, node string, version int) (api.Update, api.Errno) {
	last := len(worlds)
	now, e := netmap.Make(worlds[last-1], node)
	if e != api.OK {
		return api.Update{}, e
	}
	if version > max(0, last-keep) {
		if old, e := netmap.Make(worlds[version-1], node); e == api.OK {
			p, e := netmap.Between(old, now)
			return api.Update{Version: last, Patch: p}, e
		}
	}
	return api.Update{Version: last, Whole: true, Map: now}, api.OK
}

// P8.5: a node that takes what it is told has the map of its version; random worlds.
func TestServerOfMany(t *testing.T) {
	r := newChance(7)
	whole, patches := 0, 0
	for range 100 {
		keep := 1 + r.Intn(4)
		worlds := []api.World{r.world()}
		s := serve(worlds[0], keep)
		clients := repeat(len(someKeys), func(i int) client { return client{node: someKeys[i]} })
		for range 10 {
			if r.Intn(3) > 0 {
				worlds = append(worlds, pick(r, []api.World{r.world(), worlds[len(worlds)-1], worlds[0]}))
				is(t, "Change", all(s.Change(worlds[len(worlds)-1])), all(len(worlds), api.OK))
			}
			is(t, "Version", s.Version(), len(worlds))
			for i := range clients {
				c := &clients[i]
				if r.Intn(2) == 0 {
					continue
				}
				u, e := s.Poll(c.node, c.version)
				want, f := updateOf(worlds, keep, c.node, c.version)
				is(t, fmt.Sprintf("%s asks with %d", c.node, c.version), all(u, e), all(want, f))
				if e != api.OK {
					continue
				}
				if u.Whole {
					whole++
				} else {
					patches++
				}
				m, version, e := netmap.Take(c.m, c.version, u)
				c.m, c.version = m, version
				made, f := netmap.Make(worlds[version-1], c.node)
				is(t, "Take", all(m, version, e), all(made, len(worlds), f))
			}
		}
		behind := repeat(len(worlds)+1, func(i int) int {
			if n := len(worlds) - i; n < min(keep, len(worlds)) {
				return n
			}
			return -1
		})
		is(t, "Behind", all(s.Behind(repeat(len(worlds)+1, func(i int) int { return i }))), all(behind, api.OK))
	}
	if whole < 300 || patches < 300 {
		t.Errorf("%d are told all, %d a patch", whole, patches)
	}
}

// P8.5: the greatest number of versions
func TestManyVersions(t *testing.T) {
	w := world(pair, "", "", "")
	s := serve(w, api.MaxKept)
	for i := range 120 {
		w.Suffix = "v" + strings.Repeat("x", i%30)
		is(t, "Change", all(s.Change(w)), all(i+2, api.OK))
	}
	is(t, "Behind", all(s.Behind([]int{121, 72, 71, 1})), all([]int{0, 49, -1, -1}, api.OK))
	u, e := s.Poll("a", 72)
	is(t, "the oldest version", all(u.Whole, u.Patch.HasSuffix, e), all(false, true, api.OK))
	u, e = s.Poll("a", 71)
	is(t, "an older version", all(u.Whole, u.Version, e), all(true, 121, api.OK))
}

// Z2, Z7: a server keeps worlds of its own, and what it tells does not change it.
func TestServerKeepsItsOwn(t *testing.T) {
	r := newChance(8)
	for range 100 {
		w, x := r.world(), r.world()
		v, y := own(w), own(x)
		s := serve(v, 2)
		s.Change(y)
		scribble(v)
		scribble(y)
		for range 2 {
			for _, node := range someKeys {
				for version := range 3 {
					want, f := updateOf([]api.World{w, x}, 2, node, version)
					u, e := s.Poll(node, version)
					is(t, "Poll", all(u, e), all(want, f))
					scribble(u)
				}
			}
		}
		l, _ := s.Behind([]int{1, 2})
		scribble(l)
		is(t, "Behind", all(s.Behind([]int{1, 2})), all([]int{1, 0}, api.OK))
	}
}
