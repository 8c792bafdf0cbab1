package control_test

import (
	"cmp"
	"fmt"
	"math/rand"
	"reflect"
	"slices"
	"strconv"
	"strings"
	"testing"

	"holloway/addr"
	"holloway/api"
	"holloway/control"
	"holloway/node"
	"holloway/posture"
	"holloway/route"
	"holloway/rule"
)

// is compares two values by what is shown of them, so that nil and empty lists are the same (Z5).
func is(t *testing.T, name string, got, want any) {
	t.Helper()
	if reflect.DeepEqual(got, want) {
		return
	}
	if g, w := fmt.Sprintf("%+v", got), fmt.Sprintf("%+v", want); g != w {
		t.Errorf("%s: got %s, want %s", name, g, w)
	}
}

// all makes one value of the results of a call.
func all(results ...any) []any { return results }

// words are those of a string with blanks between.
func words(s string) []string { return strings.Fields(s) }

// repeat makes a list of n parts.
func repeat[T any](n int, part func(i int) T) []T {
	var out []T
	for i := range n {
		out = append(out, part(i))
	}
	return out
}

// key is a key for a number; they rise.
func key(i int) string { return fmt.Sprintf("k%04d", i) }

// must is a value without an error; it stops the test if there is one.
func must[T any](x T, e api.Errno) T {
	if e != api.OK {
		panic(e)
	}
	return x
}

// lines makes a text of lines with `; ` between.
func lines(s string) string {
	if s == "" {
		return ""
	}
	return strings.ReplaceAll(s, "; ", "\n") + "\n"
}

// listOf makes a list of lines with `; ` between.
func listOf[T any](s string, part func(w []string) T) []T {
	var out []T
	for line := range strings.Lines(lines(s)) {
		out = append(out, part(words(line)))
	}
	return out
}

// number reads a number for a test; it stops the test if there is none.
func number(s string) int {
	n, err := strconv.Atoi(s)
	if err != nil {
		panic(s)
	}
	return n
}

func ip(s string) api.Addr { return must(addr.Loose(s)) }

func ips(s string) []api.Addr {
	return repeat(len(words(s)), func(i int) api.Addr { return ip(words(s)[i]) })
}

func net(s string) api.Prefix { return must(addr.ParsePrefix(s)) }

// policy reads a policy.
func policy(s string) api.Policy {
	p, _, e := rule.Read(lines(s))
	return must(p, e)
}

// cond reads a condition.
func cond(s string) api.Cond {
	c, _, e := posture.Parse(s)
	return must(c, e)
}

// steps reads steps.
func steps(s string) []api.Step {
	l, _, e := node.Read(lines(s))
	return must(l, e)
}

// claims reads claims.
func claims(s string) []api.Claim {
	l, _, e := posture.Read(lines(s))
	return must(l, e)
}

// routers reads routers.
func routers(s string) []api.Router {
	l, _, e := route.Read(lines(s))
	return must(l, e)
}

// places makes places of a node, addresses, and routes.
func places(s string) []api.Place {
	return listOf(s, func(w []string) api.Place {
		p := api.Place{Node: w[0]}
		for _, x := range w[1:] {
			if strings.Contains(x, "/") {
				p.Routes = append(p.Routes, net(x))
			} else {
				p.Addrs = append(p.Addrs, ip(x))
			}
		}
		return p
	})
}

// postures makes postures of a key, and a condition.
func postures(s string) []api.Posture {
	return listOf(s, func(w []string) api.Posture {
		return api.Posture{Key: w[0], Cond: cond(strings.Join(w[1:], " "))}
	})
}

// access makes accesses of a posture, approvers, and how many are needed, how long it waits, and for how long it is given at most.
func access(s string) []api.Access {
	return listOf(s, func(w []string) api.Access {
		return api.Access{Posture: w[0], Approvers: strings.Split(w[1], ","), Need: number(w[2]), Wait: number(w[3]), Most: number(w[4])}
	})
}

// askings makes askings of a moment, and what a console would be told.
func askings(s string) []api.Asking {
	return listOf(s, func(w []string) api.Asking {
		x := api.Asking{At: number(w[0]), Kind: 1 + slices.Index(words("ask yes no stop"), w[1]), Key: w[2], By: w[3]}
		if x.Kind == api.AskFor {
			x.Node, x.Posture, x.Long = w[4], w[5], number(w[6])
		}
		return x
	})
}

// health makes what is told of health, of a moment, `up` or `down`, and a node.
func health(s string) []api.Health {
	return listOf(s, func(w []string) api.Health {
		return api.Health{At: number(w[0]), Up: w[1] == "up", Node: w[2]}
	})
}

// flow makes a flow of a protocol, an address and its port, and another one.
func flow(s string) api.Flow {
	w := words(s)
	return api.Flow{Proto: number(w[0]), From: ip(w[1]), FromPort: number(w[2]), To: ip(w[3]), ToPort: number(w[4])}
}

// window is from a moment on, and before another one.
func window(from, to int) api.Window { return api.Window{From: from, To: to} }

// office is a setting with some of all: keys last for 100 seconds, claims for 40.
func office() api.Setting {
	return api.Setting{
		Directory: api.Directory{Users: words("ann bob cid"), Owners: []api.Owner{{Tag: "db", Users: words("bob")}, {Tag: "web", Users: words("ann bob")}}, Life: 100},
		Policy:    policy("group eng ann; host lan 10.0.0.0/8; allow group:eng -> node:n2;80 proto 6; allow member -> host:lan if root,safe; accept 6 100.64.0.1 100.64.0.2 1 80; deny 6 100.64.0.2 100.64.0.1 1 80"),
		Postures:  postures("new version >= v1.2; safe disk && level > 3"),
		Access:    access("root ann,bob 1 20 30; super ann,bob,cid 2 20 30"),
		Routers:   routers("10.0.0.0/8 n2 5; 10.0.0.0/8 n3 9; 10.1.0.0/16 n3 1"),
		Places:    places("n1 100.64.0.1 fd00::1; n2 100.64.0.2 10.0.0.0/8; n3 100.64.0.3 10.1.0.0/16 10.0.0.0/8; n4 fd00::4 100.64.0.4 fd00::5"),
		Suffix:    "corp.net",
		Fresh:     40,
	}
}

// day is a book of the office.
func day() api.Book {
	return api.Book{
		Setting: office(),
		Steps:   steps("5 s1 1 join ann n1 - 0a mac; 9 s2 1 join bob n2 - 0b mac; 20 s1 2 join ann n3 - 0c box; 30 s2 2 name bob n2 pc; 60 s1 3 tag ann n3 web"),
		Claims:  claims("10 n1 disk true; 12 n1 level 5; 31 n1 level 2; 33 n1 level 4"),
		Askings: askings("11 ask k1 cid n2 root 10; 14 yes k1 ann; 15 no k1 ann"),
		Health:  health("7 up n3; 8 up n2; 40 down n3; 70 up n3"),
	}
}

// A fault makes a value wrong.
type fault[T any] struct {
	name string
	do   func(x *T)
	e    api.Errno
}

// inOrder holds that each fault has its error, by itself and ahead of each one behind it.
func inOrder[T any](t *testing.T, right func() T, check func(x T) api.Errno, faults []fault[T]) {
	t.Helper()
	is(t, "right", check(right()), api.OK)
	for i, f := range faults {
		x := right()
		f.do(&x)
		is(t, f.name, check(x), f.e)
		for _, g := range faults[i+1:] {
			x := right()
			g.do(&x)
			f.do(&x)
			is(t, f.name+", ahead of "+g.name, check(x), f.e)
		}
	}
}

// chance makes random values.
type chance struct{ *rand.Rand }

func newChance(seed int64) chance { return chance{rand.New(rand.NewSource(seed))} }

func pick[T any](r chance, l []T) T { return l[r.Intn(len(l))] }

// part is a part of a list, in its order: of n parts one is left out.
func part[T any](r chance, l []T, n int) []T {
	var out []T
	for _, x := range l {
		if r.Intn(n) > 0 {
			out = append(out, x)
		}
	}
	return out
}

func some[T any](r chance, l []T) []T { return part(r, l, 2) }

func most[T any](r chance, l []T) []T { return part(r, l, 6) }

// What random settings and books are made of. Claims and the like are told before lastTold, and nothing changes from lastChange on.
const (
	lastTold   = 40
	lastChange = 130
)

var (
	someUsers   = words("ann bob cid")
	someNodes   = words("n1 n2 n3 n4 n5")
	someNames   = words("mac mac pc n1 a_b")
	someTags    = words("db web")
	someGrants  = []string{"allow user:ann -> node:n2;80 proto 6", "allow member -> host:lan if root,safe", "allow * -> self", "allow group:eng -> tag:web", "allow tag:web,node:n3 -> member if new", "allow node:n1,node:n5 -> net:fd00::/126", "allow net:9.0.0.0/8 -> *", "allow * -> net:10.1.0.0/16 if new", "allow tagged -> tagged;80-90"}
	someTests   = []string{"accept 6 100.64.0.1 100.64.0.2 1 80", "deny 6 100.64.0.2 100.64.0.1 1 80", "accept 1 fd00::1 fd00::4 0 0"}
	somePosture = []string{"new version >= v1.2", "root disk", "safe disk && !(level < 3)"}
	someAccess  = []string{"new ann 1 5 9", "root ann,bob 1 6 9", "safe ann,bob,cid 2 6 30"}
	someRouters = []string{"0.0.0.0/0 n4 0", "10.0.0.0/8 n2 5", "10.0.0.0/8 n3 9", "10.1.0.0/16 n1 1", "10.1.0.0/16 n3 1", "fd00:1::/32 n2 7"}
	somePlaces  = []string{"n1 100.64.0.1 fd00::1 10.1.0.0/16", "n2 100.64.0.2 fd00:1::/32 10.0.0.0/8", "n3 10.1.0.0/16 100.64.0.3 10.0.0.0/8", "n4 fd00::4 100.64.0.4 fd00::5 0.0.0.0/0", "n5 fd00::6"}
	someFlows   = []string{"6 100.64.0.1 1 100.64.0.2 80", "1 100.64.0.1 0 10.0.0.9 0", "6 100.64.0.2 1 10.0.0.9 443", "17 100.64.0.3 1 10.0.0.9 80", "1 100.64.0.1 0 10.1.0.9 0", "6 100.64.0.2 1 100.64.0.2 80", "6 100.64.0.1 1 100.64.0.3 80", "6 fd00::1 7 fd00::1 1"}
	someAddrs   = ips("100.64.0.1 100.64.0.2 100.64.0.3 100.64.0.4 fd00::1 fd00::4 fd00::5 fd00::6 10.0.0.9 10.1.0.9 9.9.9.9 fd00:1::9 ::1")
)

// joined are parts with `; ` between.
func joined(l []string) string { return strings.Join(l, "; ") }

// setting is a random setting.
func (r chance) setting() api.Setting {
	p := slices.Concat([]string{"group eng ann cid", "host lan 10.0.0.0/8"}, most(r, someGrants), some(r, someTests))
	return api.Setting{
		Directory: api.Directory{Users: someUsers, Owners: []api.Owner{{Tag: "db", Users: words("bob")}, {Tag: "web", Users: words("ann bob")}}, Life: pick(r, []int{12, 30, 60}), Approve: r.Intn(5) == 0},
		Policy:    policy(joined(p)),
		Postures:  postures(joined(most(r, somePosture))),
		Access:    access(joined(most(r, someAccess))),
		Routers:   routers(joined(most(r, someRouters))),
		Places:    places(joined(most(r, somePlaces))),
		Suffix:    pick(r, words("corp.net x")),
		Fresh:     pick(r, []int{1, 7, 20, 40}),
	}
}

// step is a random line of a step, from its kind on; mostly it is told by who has the node.
func (r chance) step(i int) string {
	n := r.Intn(len(someNodes))
	if i < len(someNodes) {
		n = i
	}
	who, public := someUsers[n%len(someUsers)], fmt.Sprintf("%02x", r.Intn(64))
	if r.Intn(6) == 0 {
		who = pick(r, someUsers)
	}
	behind := who + " " + someNodes[n]
	kind := r.Intn(14)
	if i < len(someNodes) && r.Intn(5) > 0 {
		kind = 13
	}
	switch kind {
	case 0:
		return "key " + who + " " + pick(r, words("j1 j2")) + " " + pick(r, words("- - web db,web")) + " " + strconv.Itoa(r.Intn(60)) + " 2 " + pick(r, words("yes no"))
	case 1:
		return "revoke " + who + " " + pick(r, words("j1 j2"))
	case 2:
		return "join - " + someNodes[n] + " " + pick(r, words("j1 j2")) + " " + public + " " + pick(r, someNames)
	case 3:
		return "approve " + behind
	case 4, 5, 6, 7:
		return "renew " + behind + " " + public
	case 8:
		return "name " + behind + " " + pick(r, someNames)
	case 9:
		return "tag " + behind + " " + pick(r, words("db web db,web -"))
	case 10, 11:
		return "expire " + behind
	case 12:
		return "gone " + behind
	}
	return "join " + behind + " - " + public + " " + pick(r, someNames)
}

// log is a random log of two servers.
func (r chance) log() []api.Step {
	no := map[string]int{}
	var out []string
	at := 0
	for i := range 5 + r.Intn(24) {
		server := "s1"
		if i%3 == 2 {
			server = "s2"
			at++
		}
		no[server]++
		out = append(out, fmt.Sprint(at, " ", server, " ", no[server], " ", r.step(i)))
		at += pick(r, []int{0, 0, 1, 3})
		// Of one moment s1 has written all ahead of s2.
		if server == "s2" {
			at++
		}
	}
	return steps(joined(out))
}

// value is a random value of an attribute.
func (r chance) value(name string) string {
	switch name {
	case "disk":
		return pick(r, words("true true true false 1"))
	case "level":
		return pick(r, words("2 3 5"))
	}
	return pick(r, words("v1.1.0.0 v1.2.0.0 v2.0.0.0"))
}

// claims are random claims.
func (r chance) claims() []api.Claim {
	var out []api.Claim
	for range r.Intn(40) {
		name := pick(r, words("disk level version"))
		out = append(out, claims(fmt.Sprint(r.Intn(lastTold), " ", pick(r, someNodes), " ", name, " ", r.value(name)))...)
	}
	return tidied(out, func(x, y api.Claim) int {
		return cmp.Or(cmp.Compare(x.At, y.At), cmp.Compare(x.Node, y.Node), cmp.Compare(x.Name, y.Name))
	})
}

// askings are random askings.
func (r chance) askings() []api.Asking {
	var out []api.Asking
	for i := range 5 {
		at, k, n := r.Intn(lastTold-12), fmt.Sprint("k", i), someNodes[r.Intn(3)]
		out = append(out, askings(fmt.Sprint(at, " ask ", k, " cid ", n, " ", pick(r, words("new root safe")), " ", 1+r.Intn(9)))...)
		for range r.Intn(4) {
			at += r.Intn(4)
			out = append(out, askings(fmt.Sprint(at, " ", pick(r, words("yes yes yes no stop")), " ", k, " ", pick(r, someUsers)))...)
		}
	}
	return tidied(most(r, out), func(x, y api.Asking) int {
		return cmp.Or(cmp.Compare(x.At, y.At), cmp.Compare(x.Key, y.Key), cmp.Compare(x.By, y.By))
	})
}

// health is random health.
func (r chance) health() []api.Health {
	out := repeat(r.Intn(20), func(int) api.Health {
		return api.Health{At: r.Intn(lastTold), Node: pick(r, someNodes), Up: r.Intn(3) > 0}
	})
	return tidied(out, func(x, y api.Health) int { return cmp.Or(cmp.Compare(x.At, y.At), cmp.Compare(x.Node, y.Node)) })
}

// tidied is a list in an order, with one part at each place.
func tidied[T any](l []T, compare func(x, y T) int) []T {
	out := slices.Clone(l)
	slices.SortStableFunc(out, compare)
	return slices.CompactFunc(out, func(x, y T) bool { return compare(x, y) == 0 })
}

// book is a random book.
func (r chance) book() api.Book {
	return api.Book{Setting: r.setting(), Steps: r.log(), Claims: r.claims(), Askings: r.askings(), Health: r.health()}
}

// flow is a random flow, often one that depends on much.
func (r chance) flow() api.Flow {
	if r.Intn(3) > 0 {
		return flow(pick(r, someFlows))
	}
	f := api.Flow{Proto: pick(r, []int{1, 6, 6, 17}), From: someAddrs[r.Intn(5)], To: pick(r, someAddrs)}
	for f.From.Six != f.To.Six {
		f.To = pick(r, someAddrs)
	}
	if f.Proto != 1 {
		f.FromPort, f.ToPort = r.Intn(9), pick(r, []int{80, 85, 443})
	}
	return f
}

// window is a random window.
func (r chance) window() api.Window {
	from := r.Intn(lastChange)
	return pick(r, []api.Window{window(0, api.End), window(from, api.End), window(from, from+r.Intn(60)), window(0, from), window(from, from)})
}

// own is a value in memory of its own, whose lists have nothing behind their lengths, and are nil if they are empty; with roomy they have a value like the last one there.
func own[T any](x T, roomy bool) T {
	out := reflect.New(reflect.TypeOf(x)).Elem()
	ownValue(out, reflect.ValueOf(x), roomy)
	return out.Interface().(T)
}

func ownValue(out, v reflect.Value, roomy bool) {
	switch v.Kind() {
	case reflect.Slice:
		n := v.Len()
		if n == 0 {
			return
		}
		room := n
		if roomy {
			room += 2
		}
		out.Set(reflect.MakeSlice(v.Type(), room, room))
		for i := range room {
			ownValue(out.Index(i), v.Index(min(i, n-1)), roomy)
		}
		out.Set(out.Slice(0, n))
	case reflect.Struct:
		for i := range v.NumField() {
			ownValue(out.Field(i), v.Field(i), roomy)
		}
	default:
		out.Set(v)
	}
}

// equal says whether two values are equal, empty lists as nil.
func equal(x, y any) bool {
	return reflect.DeepEqual(x, y) || fmt.Sprintf("%+v", x) == fmt.Sprintf("%+v", y)
}

// right holds that a book is right.
func right(t *testing.T, b api.Book) {
	t.Helper()
	if e := control.CheckBook(b); e != api.OK {
		t.Fatalf("%+v: %v", b, e)
	}
}

// crowd is a book in which nodes of ann join at the moments from 0 on, one at each, and all meet all of some postures when they have told that they do, from 1,000 on, one at each; that lasts for 500 seconds.
func crowd(nodes, kinds int) api.Book {
	var b api.Book
	b.Setting = api.Setting{Directory: api.Directory{Users: words("ann"), Life: api.End}, Suffix: "x", Fresh: 500}
	b.Setting.Postures = repeat(kinds, func(i int) api.Posture { return api.Posture{Key: key(i), Cond: cond("disk")} })
	for i := range nodes {
		b.Steps = append(b.Steps, api.Step{At: i, Server: "s", No: i + 1, Kind: api.StepJoin, By: "ann", Node: key(i), Public: fmt.Sprintf("%x", i), Name: "n"})
		b.Claims = append(b.Claims, api.Claim{At: 1_000 + i, Node: key(i), Name: "disk", Value: api.Attr{Kind: api.AttrFlag, Number: 1}})
		b.Setting.Places = append(b.Setting.Places, api.Place{Node: key(i), Addrs: []api.Addr{{Lo: uint64(i)}}})
	}
	return b
}

var longKey = strings.Repeat("a", api.MaxName)

// notKeys are strings that are no keys.
var notKeys = []string{"", "A", "1", "-", "a b", "é", "a\n", longKey + "a"}

// fmtOf shows a value.
func fmtOf(x any) string { return fmt.Sprintf("%+v", x) }

func errnoOf(results []any) api.Errno { return results[len(results)-1].(api.Errno) }
