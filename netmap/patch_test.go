package netmap_test

import (
	"fmt"
	"slices"
	"testing"

	"holloway/api"
	"holloway/netmap"
)

// P8.2
func TestBetween(t *testing.T) {
	a := told("m mac ann 10.0.0.1", "b box 10.0.0.2; c pad; d pad 10.0.0.3", "6 ::/0 ::1/128 80")
	b := told("m mac ann 10.0.0.1", "a box; b box 10.0.0.2; d pad 10.0.0.4; e box 10.0.0.3", "6 ::/0 ::1/128 80")
	is(t, "peers", all(netmap.Between(a, b)), all(api.Patch{Gone: words("c"), Put: peers("a box; d pad 10.0.0.4; e box 10.0.0.3")}, api.OK))
	is(t, "peers", all(netmap.Between(b, a)), all(api.Patch{Gone: words("a e"), Put: peers("c pad; d pad 10.0.0.3")}, api.OK))
	is(t, "nothing", all(netmap.Between(a, a)), all(api.Patch{}, api.OK))
	b = a
	b.Self = node("m mac bob")
	is(t, "Self", all(netmap.Between(a, b)), all(api.Patch{HasSelf: true, Self: b.Self}, api.OK))
	b = a
	b.Filters = nil
	is(t, "no Filters", all(netmap.Between(a, b)), all(api.Patch{HasFilters: true}, api.OK))
	is(t, "Filters", all(netmap.Between(b, a)), all(api.Patch{HasFilters: true, Filters: a.Filters}, api.OK))
	b = a
	b.Suffix = "x"
	is(t, "Suffix", all(netmap.Between(a, b)), all(api.Patch{HasSuffix: true, Suffix: "x"}, api.OK))
	// The map can become that of another node, which was a peer.
	b = told("b box ann", "m mac", "")
	is(t, "another node", all(netmap.Between(a, b)), all(api.Patch{Gone: words("b c d"), Put: peers("m mac"), HasSelf: true, Self: b.Self, HasFilters: true}, api.OK))
}

// rightPatch is a patch in which each part can be made wrong.
func rightPatch() api.Patch {
	m := rightMap()
	return api.Patch{Gone: words("a b y"), Put: m.Peers, HasSelf: true, HasFilters: true, HasSuffix: true, Self: m.Self, Filters: m.Filters, Suffix: m.Suffix}
}

// patchFaults are what can be wrong with rightPatch: Self, Filters and Suffix are wrong in themselves, or, if they are not had, they are there all the same.
func patchFaults(hasSelf, hasFilters, hasSuffix bool) []fault[api.Patch] {
	self := within("Self: ", func(p *api.Patch) *api.Node { return &p.Self }, selfFaults())
	if !hasSelf {
		self = []fault[api.Patch]{{"Self is not had", func(p *api.Patch) { p.HasSelf = false }, api.ErrForm}}
	}
	in := within("", func(p *api.Patch) *[]api.Filter { return &p.Filters }, rowFaults())
	if !hasFilters {
		in = []fault[api.Patch]{{"Filters are not had", func(p *api.Patch) { p.HasFilters = false }, api.ErrForm}}
	}
	suffix := []fault[api.Patch]{{"no suffix", func(p *api.Patch) { p.Suffix = "" }, api.ErrForm}}
	if !hasSuffix {
		suffix = []fault[api.Patch]{{"Suffix is not had", func(p *api.Patch) { p.HasSuffix = false }, api.ErrForm}}
	}
	return slices.Concat(
		[]fault[api.Patch]{
			{"too many go", func(p *api.Patch) { p.Gone = make([]string, api.MaxPeers+1) }, api.ErrLarge},
			{"the first one that goes", func(p *api.Patch) { p.Gone[0] = "" }, api.ErrName},
			{"the second one that goes", func(p *api.Patch) { p.Gone[1] = "B" }, api.ErrName},
			{"one goes twice", func(p *api.Patch) { p.Gone[1] = "a" }, api.ErrOrder},
			{"a lower one goes", func(p *api.Patch) { p.Gone[2] = "a" }, api.ErrOrder},
		},
		within("Put: ", func(p *api.Patch) *[]api.Peer { return &p.Put }, peerFaults()),
		[]fault[api.Patch]{{"one goes and is put", func(p *api.Patch) { p.Gone[2] = "z" }, api.ErrConflict}},
		self, in, suffix,
	)
}

// P8.2, Z4
func TestCheckPatch(t *testing.T) {
	for i := range 8 {
		faults := patchFaults(i&1 == 0, i&2 == 0, i&4 == 0)
		inOrder(t, rightPatch, netmap.CheckPatch, faults)
		for _, f := range faults {
			p := rightPatch()
			f.do(&p)
			is(t, "Apply", all(netmap.Apply(rightMap(), p)), all(api.Map{}, f.e))
			is(t, "Join", all(netmap.Join(p, api.Patch{Gone: words("A")})), all(api.Patch{}, f.e))
			is(t, "Join", all(netmap.Join(rightPatch(), p)), all(api.Patch{}, f.e))
			is(t, "Take", all(netmap.Take(rightMap(), 0, api.Update{Patch: p})), all(api.Map{}, 0, f.e))
		}
	}
}

// P8.2, Z5: what a patch has not is zero.
func TestPartsOfPatches(t *testing.T) {
	for _, c := range []struct {
		name string
		p    api.Patch
		e    api.Errno
	}{
		{"nothing", api.Patch{}, api.OK},
		{"no Filters", api.Patch{HasFilters: true}, api.OK},
		{"Self is had, and zero", api.Patch{HasSelf: true}, api.ErrName},
		{"Suffix is had, and zero", api.Patch{HasSuffix: true}, api.ErrForm},
		{"Suffix is not had", api.Patch{Suffix: "x"}, api.ErrForm},
		{"Filters are not had", api.Patch{Filters: make([]api.Filter, 1)}, api.ErrForm},
		{"empty lists", api.Patch{Gone: []string{}, Put: []api.Peer{}, Self: api.Node{Tags: []string{}, Addrs: []api.Addr{}, Routes: []api.Prefix{}}, Filters: []api.Filter{}}, api.OK},
		{"a key", api.Patch{Self: api.Node{Key: "a"}}, api.ErrForm},
		{"a name", api.Patch{Self: api.Node{Name: "a"}}, api.ErrForm},
		{"a user", api.Patch{Self: api.Node{User: "A"}}, api.ErrForm},
		{"a tag", api.Patch{Self: api.Node{Tags: []string{""}}}, api.ErrForm},
		{"an address", api.Patch{Self: api.Node{Addrs: make([]api.Addr, 1)}}, api.ErrForm},
		{"a route", api.Patch{Self: api.Node{Routes: make([]api.Prefix, 1)}}, api.ErrForm},
	} {
		is(t, c.name, netmap.CheckPatch(c.p), c.e)
	}
	gone := repeat(api.MaxPeers, key)
	put := repeat(api.MaxPeers, func(i int) api.Peer { return api.Peer{Key: key(api.MaxPeers + i), Name: "x"} })
	is(t, "full", netmap.CheckPatch(api.Patch{Gone: gone, Put: put}), api.OK)
}

// P8.2, Z3
func TestApply(t *testing.T) {
	m := told("m mac ann 10.0.0.1", "b box 10.0.0.2; c pad; d pad 10.0.0.3", "6 ::/0 ::1/128 80")
	now, e := netmap.Apply(m, api.Patch{Gone: words("b d"), Put: peers("a x; c y ::1; z x")})
	is(t, "peers", all(now, e), all(told("m mac ann 10.0.0.1", "a x; c y ::1; z x", "6 ::/0 ::1/128 80"), api.OK))
	is(t, "nothing", all(netmap.Apply(m, api.Patch{})), all(m, api.OK))
	p := api.Patch{HasSelf: true, Self: node("n mac #web"), HasFilters: true, HasSuffix: true, Suffix: "x"}
	want := told("n mac #web", "b box 10.0.0.2; c pad; d pad 10.0.0.3", "")
	want.Suffix = "x"
	is(t, "the rest", all(netmap.Apply(m, p)), all(want, api.OK))
	p = api.Patch{Gone: words("b"), Put: peers("m mac"), HasSelf: true, Self: node("b box ann")}
	is(t, "another node", all(netmap.Apply(m, p)), all(told("b box ann", "c pad; d pad 10.0.0.3; m mac", "6 ::/0 ::1/128 80"), api.OK))
	for _, gone := range []string{"a", "bb", "z", "m", "a b", "b z"} {
		is(t, gone, all(netmap.Apply(m, api.Patch{Gone: words(gone)})), all(api.Map{}, api.ErrNone))
	}
	// The map that comes of it is checked, too.
	is(t, "Self is a peer", all(netmap.Apply(m, api.Patch{HasSelf: true, Self: node("c c ann")})), all(api.Map{}, api.ErrTwice))
	is(t, "a peer is Self", all(netmap.Apply(m, api.Patch{Put: peers("m mac")})), all(api.Map{}, api.ErrTwice))
	is(t, "ErrNone comes first", all(netmap.Apply(m, api.Patch{Gone: words("z"), Put: peers("m mac")})), all(api.Map{}, api.ErrNone))
	m.Peers = repeat(api.MaxPeers, func(i int) api.Peer { return api.Peer{Key: key(i), Name: "x"} })
	is(t, "too many peers", all(netmap.Apply(m, api.Patch{Put: peers("z x")})), all(api.Map{}, api.ErrLarge))
	now, e = netmap.Apply(m, api.Patch{Gone: words(key(7)), Put: peers("z x")})
	is(t, "one for another one", all(len(now.Peers), e), all(api.MaxPeers, api.OK))
}

// P8.2
func TestJoin(t *testing.T) {
	f, g := rows("6 ::/0 ::1/128 80"), rows("6 ::/0 ::1/128 81")
	for _, c := range []struct {
		name       string
		p, q, want api.Patch
	}{
		{"nothing", api.Patch{}, api.Patch{}, api.Patch{}},
		{"apart", api.Patch{Gone: words("b d"), Put: peers("f x")}, api.Patch{Gone: words("a c"), Put: peers("e y; g y")}, api.Patch{Gone: words("a b c d"), Put: peers("e y; f x; g y")}},
		{"put and put", api.Patch{Put: peers("a x ::1; b x")}, api.Patch{Put: peers("a y ::2")}, api.Patch{Put: peers("a y ::2; b x")}},
		{"put and gone", api.Patch{Put: peers("a x; b x")}, api.Patch{Gone: words("a")}, api.Patch{Gone: words("a"), Put: peers("b x")}},
		{"gone and put", api.Patch{Gone: words("a b")}, api.Patch{Put: peers("a x")}, api.Patch{Gone: words("b"), Put: peers("a x")}},
		{"gone and gone", api.Patch{Gone: words("a b")}, api.Patch{Gone: words("b c")}, api.Patch{Gone: words("a b c")}},
		{"Self of the first", api.Patch{HasSelf: true, Self: node("a a ann")}, api.Patch{}, api.Patch{HasSelf: true, Self: node("a a ann")}},
		{"Self of the last", api.Patch{}, api.Patch{HasSelf: true, Self: node("a a ann")}, api.Patch{HasSelf: true, Self: node("a a ann")}},
		{"Self of both", api.Patch{HasSelf: true, Self: node("b b #web ::1")}, api.Patch{HasSelf: true, Self: node("a a ann")}, api.Patch{HasSelf: true, Self: node("a a ann")}},
		{"Filters of the first", api.Patch{HasFilters: true, Filters: f}, api.Patch{}, api.Patch{HasFilters: true, Filters: f}},
		{"Filters of the last", api.Patch{}, api.Patch{HasFilters: true, Filters: f}, api.Patch{HasFilters: true, Filters: f}},
		{"Filters of both", api.Patch{HasFilters: true, Filters: f}, api.Patch{HasFilters: true, Filters: g}, api.Patch{HasFilters: true, Filters: g}},
		{"no Filters at last", api.Patch{HasFilters: true, Filters: f}, api.Patch{HasFilters: true}, api.Patch{HasFilters: true}},
		{"Suffix of the first", api.Patch{HasSuffix: true, Suffix: "x"}, api.Patch{}, api.Patch{HasSuffix: true, Suffix: "x"}},
		{"Suffix of the last", api.Patch{}, api.Patch{HasSuffix: true, Suffix: "x"}, api.Patch{HasSuffix: true, Suffix: "x"}},
		{"Suffix of both", api.Patch{HasSuffix: true, Suffix: "x"}, api.Patch{HasSuffix: true, Suffix: "y"}, api.Patch{HasSuffix: true, Suffix: "y"}},
	} {
		is(t, c.name, all(netmap.Join(c.p, c.q)), all(c.want, api.OK))
	}
	// Join has no error of its own, though what it makes can be too large for CheckPatch.
	low, high := api.Patch{Gone: repeat(api.MaxPeers, key)}, api.Patch{Gone: repeat(api.MaxPeers, func(i int) string { return "z" + key(i) })}
	p, e := netmap.Join(high, low)
	is(t, "many", all(p, e), all(api.Patch{Gone: append(low.Gone, high.Gone...)}, api.OK))
}

// betweenOf is the patch from a map to another one, told for each key by itself.
func betweenOf(a, b api.Map) api.Patch {
	find := func(m api.Map, key string) []api.Peer {
		return slices.DeleteFunc(slices.Clone(m.Peers), func(p api.Peer) bool { return p.Key != key })
	}
	var p api.Patch
	for _, key := range someKeys {
		x, y := find(a, key), find(b, key)
		if len(y) == 0 && len(x) == 1 {
			p.Gone = append(p.Gone, key)
		} else if !equal(x, y) {
			p.Put = append(p.Put, y...)
		}
	}
	if !equal(a.Self, b.Self) {
		p.HasSelf, p.Self = true, b.Self
	}
	if !equal(a.Filters, b.Filters) {
		p.HasFilters, p.Filters = true, b.Filters
	}
	if a.Suffix != b.Suffix {
		p.HasSuffix, p.Suffix = true, b.Suffix
	}
	return p
}

// P8.2: Apply of Between is the other map; random maps.
func TestBetweenOfMany(t *testing.T) {
	r := newChance(4)
	for range 3_000 {
		a := r.told()
		b := r.like(a)
		if r.Intn(3) == 0 {
			b = r.told()
		}
		p, e := netmap.Between(a, b)
		is(t, "Between", all(p, e), all(betweenOf(a, b), api.OK))
		is(t, "CheckPatch", netmap.CheckPatch(p), api.OK)
		is(t, fmt.Sprintf("Apply of %+v", p), all(netmap.Apply(a, p)), all(b, api.OK))
	}
}

// follow is what becomes of a map by patches, one behind the other.
func follow(m api.Map, l ...api.Patch) (api.Map, api.Errno) {
	for _, p := range l {
		var e api.Errno
		if m, e = netmap.Apply(m, p); e != api.OK {
			return api.Map{}, e
		}
	}
	return m, api.OK
}

// P8.2: Apply of Join is Apply of one behind the other; random maps.
func TestJoinOfMany(t *testing.T) {
	r := newChance(5)
	right, news := 0, 0
	for range 3_000 {
		l := []api.Map{r.told()}
		var patches []api.Patch
		for range 3 {
			next := r.like(l[len(l)-1])
			p, _ := netmap.Between(l[len(l)-1], next)
			l, patches = append(l, next), append(patches, p)
		}
		pq, e := netmap.Join(patches[0], patches[1])
		is(t, "Join", all(netmap.CheckPatch(pq), e), all(api.OK, api.OK))
		left, e := netmap.Join(pq, patches[2])
		is(t, "Join", e, api.OK)
		qr, _ := netmap.Join(patches[1], patches[2])
		is(t, "in another order", all(netmap.Join(patches[0], qr)), all(left, api.OK))
		// What was put and then goes need not have been there: only then there is an error.
		want := api.OK
		for _, key := range pq.Gone {
			if !slices.ContainsFunc(l[0].Peers, func(p api.Peer) bool { return p.Key == key }) {
				want = api.ErrNone
			}
		}
		got, e := follow(l[0], pq)
		is(t, "Apply", e, want)
		if e == api.OK {
			right++
			is(t, "Apply", got, l[2])
			is(t, "Apply", all(follow(got, patches[2])), all(l[3], api.OK))
		} else {
			news++
		}
	}
	if right < 1_000 || news < 100 {
		t.Errorf("%d right ones, %d with news that go", right, news)
	}
}
