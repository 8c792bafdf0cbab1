package node_test

import (
	"fmt"
	"math"
	"math/rand"
	"slices"
	"strings"
	"testing"

	"holloway/api"
	"holloway/node"
)

// nodesOf are the nodes of random logs, and one that there never is.
var nodesOf = words("n1 n2 n3 n4 n5 n6 n7 n8 n9")

// liveAt are the live nodes at moments.
func liveAt(d api.Directory, l []api.Step, moments int) [][]string {
	return repeat(moments, func(at int) []string {
		w, _ := worldAt(d, l, at)
		return w.live(at)
	})
}

// ending are the live nodes that end soon, found one second after the other.
func ending(w *world, at, within int) []string {
	var out []string
	for second := at + 1; second <= at+within; second++ {
		for _, m := range w.machines() {
			if m.Approved && m.Expires > at && m.Expires == second {
				out = append(out, m.Node)
			}
		}
	}
	return out
}

// P2.4, P2.5: random logs, and a world that tells all as the document does.
func TestMachinesLikeWorld(t *testing.T) {
	r := chance{rand.New(rand.NewSource(4))}
	for range 400 {
		d, l := r.directory(), r.log()
		for range 6 {
			at := r.Intn(250)
			w, _ := worldAt(d, l, at)
			is(t, "Machines", all(node.Machines(d, l, at)), all(w.machines(), api.OK))
			is(t, "Joins", all(node.Joins(d, l, at)), all(w.joins(at), api.OK))
			is(t, "Live", all(node.Live(d, l, at)), all(w.live(at), api.OK))
			within := r.Intn(100)
			is(t, "Ending", all(node.Ending(d, l, at, within)), all(ending(w, at, within), api.OK))
			for _, x := range nodesOf {
				m, there := w.state(x)
				if !there {
					m = api.Machine{}
				}
				is(t, "StateOf", all(node.StateOf(d, l, x, at)), all(m, there, api.OK))
			}
			for _, user := range d.Users {
				managed, alone := managedOf(w, user)
				is(t, "Managed", all(node.Managed(d, l, user, at)), all(managed, api.OK))
				is(t, "Orphans", all(node.Orphans(d, l, user, at)), all(alone, api.OK))
			}
			public := r.public()
			holder := ""
			for _, m := range w.machines() {
				if m.Public == public {
					holder = m.Node
				}
			}
			is(t, "NodeOf", all(node.NodeOf(d, l, public, at)), all(holder, holder != "", api.OK))
		}
		w, _ := worldAt(d, l, api.End)
		for _, x := range nodesOf {
			is(t, "Keys", all(node.Keys(d, l, x)), all(w.held(x), api.OK))
		}
	}
}

// managedOf are the nodes that a user manages, and those that nobody else manages.
func managedOf(w *world, user string) (managed, alone []string) {
	for _, m := range w.machines() {
		others := 0
		for _, other := range w.d.Users {
			if other != user && w.manages(other, m) {
				others++
			}
		}
		if w.manages(user, m) {
			managed = append(managed, m.Node)
			if others == 0 {
				alone = append(alone, m.Node)
			}
		}
	}
	return managed, alone
}

// P2.4: NextChange and LiveTime, told one second after the other.
func TestTimesLikeSeconds(t *testing.T) {
	const moments = 500 // at which all that ends soon has ended
	r := chance{rand.New(rand.NewSource(5))}
	for range 60 {
		d, l := r.directory(), r.log()
		live := liveAt(d, l, moments)
		next, more := 0, false
		for at := moments - 2; at >= 0; at-- {
			if !slices.Equal(live[at], live[at+1]) {
				next, more = at+1, true
			}
			is(t, "NextChange", all(node.NextChange(d, l, at)), all(next, more, api.OK))
		}
		for range 20 {
			x, from := nodesOf[r.Intn(len(nodesOf))], r.Intn(moments)
			to := from + r.Intn(moments-from)
			n := 0
			for at := from; at < to; at++ {
				if slices.Contains(live[at], x) {
					n++
				}
			}
			is(t, "LiveTime", all(node.LiveTime(d, l, x, window(from, to))), all(n, api.OK))
		}
	}
}

// history has a node that is live, ends, is renewed, expires and goes, all at moments that are told.
func history() []api.Step {
	return log("5 join ann n1 - 0a x", "105 renew ann n1 0b", "120 expire ann n1", "120 renew ann n1 0c", "300 renew ann n1 0d", "310 expire ann n1", "320 tag ann n1 web", "400 gone ann n1")
}

// P2.4, P2.5
func TestHistory(t *testing.T) {
	d, l := office(100, false), history()
	for _, c := range []struct {
		at, next int
		live     string
	}{
		{0, 5, ""}, {4, 5, ""}, {5, 220, "n1"}, {104, 220, "n1"}, {105, 220, "n1"}, {120, 220, "n1"}, {219, 220, "n1"}, {220, 300, ""}, {299, 300, ""}, {300, 310, "n1"}, {309, 310, "n1"}, {310, 320, ""}, {319, 320, ""}, {320, 400, "n1"}, {399, 400, "n1"}, {400, 0, ""}, {api.End - 1, 0, ""},
	} {
		is(t, "Live", all(node.Live(d, l, c.at)), all(words(c.live), api.OK))
		is(t, "NextChange", all(node.NextChange(d, l, c.at)), all(c.next, c.next > 0, api.OK))
	}
	for _, c := range []struct{ from, to, n int }{
		{0, api.End, 215 + 10 + 80}, {5, 220, 215}, {5, 221, 215}, {4, 6, 1}, {0, 5, 0}, {0, 0, 0}, {100, 100, 0}, {api.End, api.End, 0}, {100, 305, 125}, {305, 325, 10}, {220, 300, 0}, {400, api.End, 0}, {399, 401, 1},
	} {
		is(t, "LiveTime", all(node.LiveTime(d, l, "n1", window(c.from, c.to))), all(c.n, api.OK))
		is(t, "LiveTime", all(node.LiveTime(d, l, "n2", window(c.from, c.to))), all(0, api.OK))
	}
	is(t, "Keys", all(node.Keys(d, l, "n1")), all([]api.Held{{Public: "0a", From: 5, To: 105}, {Public: "0b", From: 105, To: 120}, {Public: "0c", From: 120, To: 300}, {Public: "0d", From: 300, To: 400}}, api.OK))
	is(t, "Keys", all(node.Keys(d, l, "n2")), all([]api.Held{}, api.OK))
}

// P2.4: what changes at a moment and back is no change; a node in the place of another one is one.
func TestChangesAtOneMoment(t *testing.T) {
	d := office(100, false)
	for _, c := range []struct {
		lines string
		at    int
		next  int
	}{
		{"5 join ann n1 - 0a x; 5 gone ann n1", 0, 0},
		{"5 join ann n1 - 0a x; 5 expire ann n1", 0, 0},
		{"5 join ann n1 - 0a x; 9 expire ann n1; 9 renew ann n1 0b", 5, 109},
		{"5 join ann n1 - 0a x; 9 gone ann n1; 9 join ann n2 - 0a x", 5, 9},
		{"5 join ann n1 - 0a x; 105 renew ann n1 0b", 5, 205},
		{"5 join ann n1 - 0a x; 105 renew ann n1 0b; 105 expire ann n1", 5, 105},
		{"5 join ann n1 - 0a x; 105 renew ann n1 0b; 105 gone ann n1", 5, 105},
		{"5 join ann n1 - 0a x; 106 renew ann n1 0b", 5, 105},
		{"5 join ann n1 - 0a x; 106 renew ann n1 0b", 105, 106},
		{"5 join ann n1 - 0a x; 106 renew ann n1 0b; 106 expire ann n1", 105, 0},
		{"5 join ann n1 - 0a x; 9 name ann n1 y", 5, 105},
		{"5 join ann n1 - 0a x; 9 tag ann n1 web", 5, 0},
		{"5 join ann n1 - 0a x; 200 tag ann n1 web", 105, 200},
		{"5 join ann n1 - 0a x; 6 join ann n2 - 0b x; 7 expire ann n1; 7 gone ann n2", 6, 7},
		{"0 join ann n1 - 0a x", 0, 100},
		{"345686390 join ann n1 - 0a x", 0, 345686390},
		{"345686390 join ann n1 - 0a x", 345686390, 0},
		{"345686300 join ann n1 - 0a x", 345686300, 0},
		{"345686299 join ann n1 - 0a x", 345686299, 345686399},
		{"345686300 join ann n1 - 0a x; 345686399 expire ann n1", 345686300, 345686399},
	} {
		l := log(strings.Split(c.lines, ";")...)
		is(t, c.lines, all(node.NextChange(d, l, c.at)), all(c.next, c.next > 0, api.OK))
	}
	approve := office(100, true)
	l := log("5 join ann n1 - 0a x", "9 approve bob n1", "105 join ann n2 - 0b x", "300 approve bob n2")
	is(t, "approved late", all(node.NextChange(approve, l, 0)), all(9, true, api.OK))
	is(t, "approved too late", all(node.NextChange(approve, l, 105)), all(0, false, api.OK))
	is(t, "approved late", all(node.LiveTime(approve, l, "n1", window(0, api.End))), all(96, api.OK))
	is(t, "approved too late", all(node.LiveTime(approve, l, "n2", window(0, api.End))), all(0, api.OK))
}

// P2.4
func TestEnding(t *testing.T) {
	d := office(100, false)
	l := log("5 join ann n2 - 0a x", "5 join ann n1 - 0b x", "5 join ann n9 - 0c x", "7 join ann n0 - 0d x", "8 join ann n4 - 0e x", "9 tag ann n4 web", "10 join ann n3 - 0f x", "11 expire ann n3", "12 join ann n5 - 10 x", "13 renew ann n9 0c0c", "50 gone ann n0")
	for _, c := range []struct {
		at, within int
		want       string
	}{
		{20, 0, ""}, {20, 84, ""}, {20, 85, "n1 n2"}, {20, 86, "n1 n2"}, {20, 87, "n1 n2 n0"}, {20, 92, "n1 n2 n0 n5"}, {20, 93, "n1 n2 n0 n5 n9"}, {20, api.End - 21, "n1 n2 n0 n5 n9"}, {20, api.End - 20, "n1 n2 n0 n5 n9 n4"}, {20, api.End, "n1 n2 n0 n5 n9 n4"},
		{12, 93, "n1 n2 n9"}, {13, 92, "n1 n2"}, {60, 60, "n1 n2 n5 n9"}, {104, 1, "n1 n2"}, {105, 1, ""}, {105, 8, "n5 n9"}, {113, 1_000, ""}, {10, 1_000, "n1 n2 n9 n0 n3"}, {11, 1_000, "n1 n2 n9 n0"}, {0, api.End, ""}, {api.End - 1, 0, ""}, {api.End - 1, 1, "n4"}, {api.End - 1, api.End, "n4"},
	} {
		is(t, fmt.Sprint("Ending ", c.at, c.within), all(node.Ending(d, l, c.at, c.within)), all(words(c.want), api.OK))
	}
}

// P2.4
func TestJoins(t *testing.T) {
	d := office(100, true)
	l := log("5 key bob k2 db 50 2 yes", "6 key ann k1 - 345686400 1000 no", "7 join - n1 k2 0a x", "8 join - n2 k1 0b x", "9 revoke bob k2", "10 join - n3 k2 0c x")
	k1 := func(left int) api.Join { return api.Join{Key: "k1", By: "ann", Until: api.End, Left: left} }
	k2 := func(left int) api.Join {
		return api.Join{Key: "k2", By: "bob", Tags: []string{"db"}, Until: 50, Left: left, Ready: true}
	}
	for _, c := range []struct {
		at   int
		want []api.Join
	}{
		{4, nil}, {5, []api.Join{k2(2)}}, {6, []api.Join{k1(1_000), k2(2)}}, {7, []api.Join{k1(1_000), k2(1)}}, {8, []api.Join{k1(999), k2(1)}}, {9, []api.Join{k1(999), k2(0)}}, {api.End - 1, []api.Join{k1(999), k2(0)}},
	} {
		is(t, fmt.Sprint("Joins ", c.at), all(node.Joins(d, l, c.at)), all(c.want, api.OK))
	}
	for at, left := range map[int]int{7: 1, 49: 1, 50: 0, 51: 0} {
		is(t, fmt.Sprint("Joins ", at), all(node.Joins(d, log("5 key bob k2 db 50 2 yes", "7 join - n1 k2 0a x"), at)), all([]api.Join{k2(left)}, api.OK))
	}
}

// P2.5: times of no length are left out, and times of one public key are told one by one.
func TestKeys(t *testing.T) {
	d := office(100, false)
	for _, c := range []struct {
		lines string
		want  []api.Held
	}{
		{"5 join ann n - 0a x", []api.Held{{Public: "0a", From: 5, To: api.End}}},
		{"5 join ann n - 0a x; 5 gone ann n", nil},
		{"5 join ann n - 0a x; 9 gone ann n", []api.Held{{Public: "0a", From: 5, To: 9}}},
		{"5 join ann n - 0a x; 9 gone ann n; 10 renew ann n 0b", []api.Held{{Public: "0a", From: 5, To: 9}}},
		{"5 join ann n - 0a x; 5 renew ann n 0b", []api.Held{{Public: "0b", From: 5, To: api.End}}},
		{"5 join ann n - 0a x; 9 renew ann n 0b; 9 renew ann n 0c", []api.Held{{Public: "0a", From: 5, To: 9}, {Public: "0c", From: 9, To: api.End}}},
		{"5 join ann n - 0a x; 9 renew ann n 0b; 12 renew ann n 0a", []api.Held{{Public: "0a", From: 5, To: 9}, {Public: "0b", From: 9, To: 12}, {Public: "0a", From: 12, To: api.End}}},
		{"5 join ann n - 0a x; 9 renew ann n 0b; 9 renew ann n 0a; 9 gone ann n", []api.Held{{Public: "0a", From: 5, To: 9}}},
		{"5 join ann n - 0a x; 9 renew ann n 0b; 9 renew ann n 0a", []api.Held{{Public: "0a", From: 5, To: 9}, {Public: "0a", From: 9, To: api.End}}},
		{"5 join ann n - 0a x; 9 renew bob n 0b; 10 expire ann n; 11 tag ann n web; 12 name ann n y", []api.Held{{Public: "0a", From: 5, To: api.End}}},
	} {
		is(t, c.lines, all(node.Keys(d, log(strings.Split(c.lines, ";")...), "n")), all(c.want, api.OK))
	}
}

// P2.5: a public key is that of a node that is there, live or not, and can become that of another one.
func TestNodeOf(t *testing.T) {
	d := office(100, true)
	l := log("5 join ann n1 - 0a x", "6 renew ann n1 0b", "7 join ann n2 - 0a x", "8 gone ann n2", "9 join ann n3 - 0a x", "10 expire ann n3")
	for _, c := range []struct {
		public string
		at     int
		want   string
	}{
		{"0a", 4, ""}, {"0a", 5, "n1"}, {"0a", 6, ""}, {"0a", 7, "n2"}, {"0a", 8, ""}, {"0a", 9, "n3"}, {"0a", api.End - 1, "n3"}, {"0b", 5, ""}, {"0b", 6, "n1"}, {"0b", api.End - 1, "n1"}, {"0c", 9, ""}, {strings.Repeat("f", api.MaxPublic), 9, ""},
	} {
		is(t, "NodeOf", all(node.NodeOf(d, l, c.public, c.at)), all(c.want, c.want != "", api.OK))
	}
}

// P2.5, and the document's example.
func TestManaged(t *testing.T) {
	d := office(100, false)
	l := log("5 join ann n1 - 0a laptop", "6 join bob n0 - 0b x", "7 key ann k ops 50 9 no", "8 join - n2 k 0c x", "9 tag ann n1 web", "10 join ann n3 - 0d x", "11 tag bob n2 db", "12 gone bob n2")
	for _, c := range []struct {
		user           string
		at             int
		managed, alone string
	}{
		{"ann", 4, "", ""}, {"ann", 5, "n1", "n1"}, {"ann", 8, "n1 n2", "n1"}, {"bob", 8, "n0 n2", "n0"}, {"ann", 9, "n1 n2", "n1"}, {"ann", 10, "n1 n2 n3", "n1 n3"}, {"ann", 11, "n1 n3", "n1 n3"}, {"bob", 11, "n0 n2", "n0 n2"}, {"bob", 12, "n0", "n0"}, {"cid", 12, "", ""}, {"ann", 5_000, "n1 n3", "n1 n3"},
	} {
		is(t, fmt.Sprint("Managed ", c.user, c.at), all(node.Managed(d, l, c.user, c.at)), all(words(c.managed), api.OK))
		is(t, fmt.Sprint("Orphans ", c.user, c.at), all(node.Orphans(d, l, c.user, c.at)), all(words(c.alone), api.OK))
	}
	is(t, "LiveTime", all(node.LiveTime(d, l[:1], "n1", window(0, api.End))), all(100, api.OK))
	is(t, "LiveTime", all(node.LiveTime(d, l, "n1", window(0, api.End))), all(api.End-5, api.OK))
}

var wrongMoments = []int{-1, api.End, api.End + 1, math.MinInt, math.MaxInt}

// P2.4, P2.5, Z4, Z6
func TestErrorsOfMoments(t *testing.T) {
	in := input{d: office(1, false), l: base(), s: by("s", 99, "99 gone ann n1"), node: "n1", public: "0a", user: "ann", tag: "web", at: 9, w: window(0, 9)}
	for _, c := range calls {
		is(t, c.name, errnoOf(c.f(in)), api.OK)
	}
	for _, f := range calls {
		expect := func(change func(in *input), e api.Errno) {
			x := in
			change(&x)
			is(t, f.name, errnoOf(f.f(x)), e)
		}
		for _, at := range wrongMoments {
			if f.moment {
				expect(func(in *input) { in.at = at }, api.ErrArg)
			}
			if f.name == "Ending" {
				expect(func(in *input) { in.within = at + 1 }, map[bool]api.Errno{true: api.OK, false: api.ErrArg}[at == -1])
				expect(func(in *input) { in.at, in.within = at, -1 }, api.ErrArg)
			}
		}
		for _, s := range notKeys {
			if slices.Contains(words("StateOf LiveTime Keys"), f.name) {
				expect(func(in *input) { in.node = s }, api.ErrName)
				expect(func(in *input) { in.node, in.at, in.w.From = s, -1, -1 }, api.ErrName)
			}
		}
		for _, s := range notPublics {
			if f.name == "NodeOf" {
				expect(func(in *input) { in.public, in.at = s, 9 }, api.ErrName)
				expect(func(in *input) { in.public, in.at = s, -1 }, api.ErrName)
			}
		}
		for _, s := range append(notKeys, "dan", "ann2") {
			if slices.Contains(words("Managed Orphans"), f.name) {
				expect(func(in *input) { in.user = s }, api.ErrNone)
				expect(func(in *input) { in.user, in.at = s, -1 }, api.ErrNone)
			}
		}
	}
	for _, w := range []api.Window{window(-1, 5), window(6, 5), window(0, -1), window(0, api.End+1), window(api.End+1, api.End+1), window(math.MinInt, math.MaxInt), window(math.MaxInt, math.MinInt), window(-2, -1)} {
		is(t, "LiveTime", all(node.LiveTime(in.d, in.l, "n1", w)), all(0, api.ErrArg))
	}
}

// place is where a node is.
func place(node string, addrs []api.Addr, routes ...api.Prefix) api.Place {
	return api.Place{Node: node, Addrs: addrs, Routes: routes}
}

// v4 are addresses of 32 bits.
func v4(l ...uint64) []api.Addr {
	var out []api.Addr
	for _, lo := range l {
		out = append(out, api.Addr{Lo: lo})
	}
	return out
}

// net is a prefix of addresses of 32 bits.
func net(lo uint64, bits int) api.Prefix { return api.Prefix{Addr: api.Addr{Lo: lo}, Bits: bits} }

// P2.6
func TestNodes(t *testing.T) {
	d := office(100, true)
	l := append(base(), by("t", 1, "19 approve ann n5"))
	six := api.Addr{Six: true, Hi: 7, Lo: 9}
	places := []api.Place{place("n0", v4(1)), place("n1", []api.Addr{{Lo: 9}, six, {Lo: 3}}, net(256, 24), net(0, 0), net(256, 25)), place("n2", v4(4)), place("n5", nil, net(256, 24)), place("zz", v4(2))}
	n1 := api.Node{Key: "n1", User: "ann", Name: "laptop", Addrs: places[1].Addrs, Routes: places[1].Routes}
	n3 := api.Node{Key: "n3", Name: "store", Tags: []string{"db"}}
	n5 := api.Node{Key: "n5", Name: "shop", Tags: []string{"ops", "web"}, Routes: places[3].Routes}
	for _, c := range []struct {
		at   int
		want []api.Node
	}{
		{9, nil}, {10, []api.Node{n3}}, {18, []api.Node{n1, n3}}, {19, []api.Node{n1, n3, n5}}, {104, []api.Node{n1, n3, n5}}, {105, []api.Node{n3, n5}},
	} {
		is(t, fmt.Sprint("Nodes ", c.at), all(node.Nodes(d, l, places, c.at)), all(c.want, api.OK))
	}
	is(t, "Nodes", all(node.Nodes(d, l, nil, 10)), all([]api.Node{n3}, api.OK))
}

var wrongPlaces = []struct {
	name   string
	places []api.Place
	e      api.Errno
}{
	{"too many", repeat(api.MaxNodes+1, func(i int) api.Place { return place(keys(api.MaxNodes + 1)[i], nil) }), api.ErrLarge},
	{"too many, ahead of names", make([]api.Place, api.MaxNodes+1), api.ErrLarge},
	{"no key", []api.Place{place("A", nil)}, api.ErrName},
	{"a name, ahead of its order", []api.Place{place("b", nil), place("A", nil)}, api.ErrName},
	{"order", []api.Place{place("b", nil), place("a", nil)}, api.ErrOrder},
	{"a place twice", []api.Place{place("b", nil), place("b", nil)}, api.ErrOrder},
	{"order, ahead of addresses", []api.Place{place("b", nil), place("a", v4(1<<32))}, api.ErrOrder},
	{"addresses", []api.Place{place("a", v4(1, 2, 3, 4, 5))}, api.ErrLarge},
	{"addresses, ahead of what they are", []api.Place{place("a", v4(1<<32, 1, 1, 4, 5))}, api.ErrLarge},
	{"a wrong address", []api.Place{place("a", v4(1, 1<<32))}, api.ErrForm},
	{"a wrong address twice", []api.Place{place("a", v4(1<<32, 1<<32))}, api.ErrForm},
	{"an address twice", []api.Place{place("a", v4(1, 2, 1))}, api.ErrConflict},
	{"an address twice, ahead of a wrong one", []api.Place{place("a", v4(1, 1, 1<<32))}, api.ErrConflict},
	{"an address of two", []api.Place{place("a", v4(1, 2)), place("b", nil), place("c", v4(2))}, api.ErrConflict},
	{"addresses, ahead of routes", []api.Place{place("a", v4(1, 1), net(1, 33))}, api.ErrConflict},
	{"routes", []api.Place{place("a", nil, repeat(api.MaxRoutes+1, func(i int) api.Prefix { return net(0, i) })...)}, api.ErrLarge},
	{"routes, ahead of what they are", []api.Place{place("a", nil, make([]api.Prefix, api.MaxRoutes+1)...)}, api.ErrLarge},
	{"bits of a route", []api.Place{place("a", nil, net(0, 0), net(0, 33))}, api.ErrArg},
	{"an address of a route", []api.Place{place("a", nil, net(1<<32, 33))}, api.ErrForm},
	{"bits behind a route", []api.Place{place("a", nil, net(1, 31))}, api.ErrForm},
	{"a route twice", []api.Place{place("a", nil, net(0, 8), net(0, 9), net(0, 8))}, api.ErrTwice},
	{"a route twice, ahead of a wrong one", []api.Place{place("a", nil, net(0, 8), net(0, 8), net(1, 8))}, api.ErrTwice},
	{"routes, ahead of the next name", []api.Place{place("a", nil, net(0, 8), net(0, 8)), place("A", nil)}, api.ErrTwice},
}

// P2.6, Z4
func TestErrorsOfPlaces(t *testing.T) {
	d, l := office(100, false), log("5 join ann n1 - 0a x")
	n1 := []api.Node{{Key: "n1", User: "ann", Name: "x"}}
	for _, p := range [][]api.Place{
		repeat(api.MaxNodes, func(i int) api.Place { return place(keys(api.MaxNodes)[i], v4(uint64(i))) }),
		{place("a", v4(1, 2, 3, 4)), place("b", []api.Addr{{Six: true, Lo: 1}})},
		{place("a", nil, repeat(api.MaxRoutes, func(i int) api.Prefix { return net(0, i) })...), place("b", nil, net(0, 8))},
		{place("a", nil, net(0, 0), api.Prefix{Addr: api.Addr{Six: true}}, api.Prefix{Addr: api.Addr{Six: true}, Bits: 128})},
	} {
		is(t, "Nodes", all(node.Nodes(d, l, p, 5)), all(n1, api.OK))
		is(t, "the moment", all(node.Nodes(d, l, p, -1)), all([]api.Node{}, api.ErrArg))
	}
	for _, c := range wrongPlaces {
		is(t, c.name, all(node.Nodes(d, l, c.places, 5)), all([]api.Node{}, c.e))
		is(t, c.name+", ahead of the moment", all(node.Nodes(d, l, c.places, -1)), all([]api.Node{}, c.e))
	}
}
