package flow_test

import (
	"fmt"
	"maps"
	"math"
	"math/rand"
	"reflect"
	"slices"
	"strings"
	"testing"

	"holloway/addr"
	"holloway/api"
	"holloway/rule"
)

const endHour = 24 * (api.MaxDay + 1)

// is compares two values by what is shown of them, so that nil and empty lists are the same (Z5).
func is(t *testing.T, name string, got, want any) {
	t.Helper()
	if reflect.DeepEqual(got, want) {
		return
	}
	if g, w := fmt.Sprintf("%+v", got), fmt.Sprintf("%+v", want); g != w {
		t.Errorf("%.500s: got %.2000s, want %.2000s", name, g, w)
	}
}

// all makes one value of the results of a call.
func all(results ...any) []any { return results }

// words are those of a string with blanks between.
func words(s string) []string { return strings.Fields(s) }

// repeat makes a list of n parts.
func repeat[T any](n int, part func(i int) T) []T {
	var out []T
	for i := range n {
		out = append(out, part(i))
	}
	return out
}

// key is a key for a number; they rise.
func key(i int) string { return fmt.Sprintf("k%04d", i) }

// parts makes a list of parts with `; ` between, each one of its words.
func parts[T any](s string, part func(w []string) T) []T {
	var out []T
	for x := range strings.SplitSeq(s, "; ") {
		if x != "" {
			out = append(out, part(words(x)))
		}
	}
	return out
}

// ip reads an address for a test; it stops the test if there is none.
func ip(s string) api.Addr {
	a, e := addr.Loose(s)
	if e != api.OK {
		panic(s)
	}
	return a
}

// number reads a number for a test; it stops the test if there is none.
func number(s string) int {
	n := 0
	if _, err := fmt.Sscan(s, &n); err != nil {
		panic(s)
	}
	return n
}

// flowOf makes a flow of a protocol, two addresses, and two ports.
func flowOf(w []string) api.Flow {
	return api.Flow{Proto: number(w[0]), From: ip(w[1]), To: ip(w[2]), FromPort: number(w[3]), ToPort: number(w[4])}
}

// reports makes reports of an hour, a node, out or in, a flow, packets, and bytes.
func reports(s string) []api.Report {
	return parts(s, func(w []string) api.Report {
		return api.Report{Hour: number(w[0]), Node: w[1], Out: w[2] == "out", Flow: flowOf(w[3:8]), Packets: number(w[8]), Bytes: number(w[9])}
	})
}

// nodes makes nodes of a key, the user or # and tags, and addresses.
func nodes(s string) []api.Node {
	return parts(s, func(w []string) api.Node {
		n := api.Node{Key: w[0], Name: w[0], User: w[1]}
		if tags, ok := strings.CutPrefix(w[1], "#"); ok {
			n.User, n.Tags = "", strings.Split(tags, ",")
		}
		for _, a := range w[2:] {
			n.Addrs = append(n.Addrs, ip(a))
		}
		return n
	})
}

// sums makes sums of an hour, two nodes, packets, and bytes.
func sums(s string) []api.Sum {
	return parts(s, func(w []string) api.Sum {
		return api.Sum{Hour: number(w[0]), From: w[1], To: w[2], Packets: number(w[3]), Bytes: number(w[4])}
	})
}

// hours makes a window.
func hours(from, to int) api.Window { return api.Window{From: from, To: to} }

// always are all hours.
var always = hours(0, endHour)

// policy reads a policy of lines with `; ` between; it stops the test if it is wrong.
func policy(s string) api.Policy {
	if s != "" {
		s = strings.ReplaceAll(s, "; ", "\n") + "\n"
	}
	p, _, e := rule.Read(s)
	if e != api.OK {
		panic(s)
	}
	return p
}

// wrongNumbers are out of a range.
func wrongNumbers(least, most int) []int {
	return []int{least - 1, most + 1, math.MinInt, math.MaxInt}
}

var tooLong = strings.Repeat("a", api.MaxName+1)

// notKeys are strings that are no keys.
var notKeys = []string{"", "A", "aA", "1", "-", "_a", "a b", " a", "a.b", "é", "a\n", tooLong}

// A spoiler makes a value wrong, with an error.
type spoiler[T any] struct {
	name string
	do   func(x *T)
	e    api.Errno
}

// checked spoils each part of a list that is right, also ahead of other errors of this part, and of a later one. (The spoilers are in the order of their errors, and come ahead of the order of the list.)
func checked[T any](t *testing.T, right []T, check func(l []T) api.Errno, spoilers []spoiler[T]) {
	t.Helper()
	is(t, "right", check(right), api.OK)
	is(t, "none", check(nil), api.OK)
	for i := range right {
		for k, s := range spoilers {
			l := slices.Clone(right)
			s.do(&l[i])
			is(t, fmt.Sprint(i, ": ", s.name), check(l), s.e)
			for _, later := range spoilers[k:] {
				l = slices.Concat(right, right)
				later.do(&l[i])
				s.do(&l[i])
				is(t, fmt.Sprint(i, ": ", s.name, ", then ", later.name), check(l), s.e)
				l[i] = right[i]
				s.do(&l[i])
				later.do(&l[len(right)+i])
				is(t, fmt.Sprint(i, ": ", s.name, ", and one with ", later.name), check(l), s.e)
			}
		}
	}
	for i := 1; i < len(right); i++ {
		l := slices.Clone(right)
		l[i-1], l[i] = l[i], l[i-1]
		is(t, fmt.Sprint(i, ": exchanged"), check(l), api.ErrOrder)
		for _, s := range spoilers {
			l = slices.Clone(right)
			l[i] = l[i-1]
			is(t, fmt.Sprint(i, ": the same twice"), check(l), api.ErrOrder)
			s.do(&l[i])
			is(t, fmt.Sprint(i, ": out of order, and ", s.name), check(l), s.e)
		}
	}
}

// chance makes random values.
type chance struct{ *rand.Rand }

func newChance(seed int64) chance { return chance{rand.New(rand.NewSource(seed))} }

func pick[T any](r chance, l []T) T { return l[r.Intn(len(l))] }

// some are some of a list, in its order.
func some[T any](r chance, l []T) []T {
	var out []T
	for _, x := range l {
		if r.Intn(3) == 0 {
			out = append(out, x)
		}
	}
	return out
}

// What random values are made of; keys are in order.
var (
	someKeys  = words("n n- n0 na nb")
	someAddrs = strings.Fields("10.0.0.1 10.0.0.2 10.0.0.3 10.0.1.1 fd00::1 fd00::2 fd00:0:0:1::1")
	someHours = []int{0, 1, 2, 23, 24, 25, 47, 48, 719, 720, 721, 1439, 1440, 24*api.MaxDay + 22, 24*api.MaxDay + 23}
	someWhats = words("* user:ann user:bob user:zed tag:db tag:web node:n node:na net:10.0.0.2/31 net:fd00::/64 member tagged")
)

// placeOf is a string by which addresses are in order.
func placeOf(a api.Addr) string { return fmt.Sprintf("%t %016x %016x", a.Six, a.Hi, a.Lo) }

// placeOfFlow is a string by which flows are in order.
func placeOfFlow(f api.Flow) string {
	return fmt.Sprintf("%03d %s %s %05d %05d", f.Proto, placeOf(f.From), placeOf(f.To), f.FromPort, f.ToPort)
}

// placeOfReport is a string by which reports are in order.
func placeOfReport(r api.Report) string {
	return fmt.Sprintf("%06d %s\x00 %t %s", r.Hour, r.Node, r.Out, placeOfFlow(r.Flow))
}

// inOrder are the values of a map, by its keys.
func inOrder[T any](m map[string]T) []T {
	var out []T
	for _, k := range slices.Sorted(maps.Keys(m)) {
		out = append(out, m[k])
	}
	return out
}

// nodes are random nodes.
func (r chance) nodes() []api.Node {
	free := slices.Clone(someAddrs)
	r.Shuffle(len(free), func(i, k int) { free[i], free[k] = free[k], free[i] })
	free = free[r.Intn(3):]
	var out []api.Node
	for _, k := range someKeys {
		n := api.Node{Key: k, Name: "box", User: pick(r, words("ann bob"))}
		if r.Intn(4) == 0 {
			n.User, n.Tags = "", append(some(r, words("db")), "web")
		}
		for range min(r.Intn(4), len(free)) {
			n.Addrs = append(n.Addrs, ip(free[0]))
			free = free[1:]
		}
		if r.Intn(6) > 0 {
			out = append(out, n)
		}
	}
	return out
}

// flow is a random flow.
func (r chance) flow() api.Flow {
	f := api.Flow{Proto: pick(r, []int{1, 6, 6, 6, 17, 255}), From: ip(pick(r, someAddrs))}
	for f.To = ip(pick(r, someAddrs)); f.To.Six != f.From.Six; {
		f.To = ip(pick(r, someAddrs))
	}
	if f.Proto == 6 || f.Proto == 17 {
		f.FromPort, f.ToPort = pick(r, []int{0, 9, 80}), pick(r, []int{0, 80, 81, 443, api.MaxPort})
	}
	return f
}

// amounts are random packets and bytes.
func (r chance) amounts() (int, int) {
	if r.Intn(20) == 0 {
		return api.MaxBytes - r.Intn(2), api.MaxBytes - r.Intn(2)
	}
	return 1 + r.Intn(5), pick(r, []int{0, 100, 100, 200, 300, 1_000, 1_500_000_000}) + r.Intn(3)
}

// reports are random reports, which mostly fit nodes.
func (r chance) reports(nodes []api.Node) []api.Report {
	found := map[string]api.Report{}
	when := some(r, someHours)
	flows := repeat(1+r.Intn(8), func(int) api.Flow { return r.flow() })
	for range r.Intn(50) * min(len(when), 1) {
		x := api.Report{Hour: pick(r, when), Out: r.Intn(2) == 0, Flow: pick(r, flows)}
		x.Node = ownerOf(nodes, x.Flow.To)
		if x.Out {
			x.Node = ownerOf(nodes, x.Flow.From)
		}
		if x.Node == "" || r.Intn(8) == 0 {
			x.Node = pick(r, append(words("z"), someKeys...))
		}
		x.Packets, x.Bytes = r.amounts()
		found[placeOfReport(x)] = x
	}
	return inOrder(found)
}

// scene is a random scene.
func (r chance) scene(nodes []api.Node) api.Scene {
	var lines []string
	for range r.Intn(4) {
		line := "allow " + pick(r, someWhats) + " -> " + pick(r, append(words("self self"), someWhats...))
		switch r.Intn(3) {
		case 0:
			line += pick(r, words(";80 ;0 ;80-443")) + " proto " + pick(r, words("6 17"))
		case 1:
			line += " if p"
		}
		lines = append(lines, line)
	}
	s := api.Scene{Policy: policy(strings.Join(append(lines, "deny 6 10.0.0.1 10.0.0.2 0 80"), "; ")), Nodes: nodes}
	for _, n := range some(r, nodes) {
		s.Facts = append(s.Facts, api.Fact{Node: n.Key, Posture: "p"})
	}
	return s
}

// ownerOf is the key of the node that has an address; empty if there is none.
func ownerOf(nodes []api.Node, a api.Addr) string {
	for _, n := range nodes {
		if slices.Contains(n.Addrs, a) {
			return n.Key
		}
	}
	return ""
}
