package route_test

import (
	"fmt"
	"math"
	"reflect"
	"slices"
	"strings"
	"sync"
	"testing"

	"holloway/api"
	"holloway/route"
)

// input has an argument of each type.
type input struct {
	routers  []api.Router
	health   []api.Health
	p        api.Prefix
	a        api.Addr
	node     string
	at       int
	w        api.Window
	six      bool
	probes   []api.Probe
	links    []api.Link
	gain     int
	one, two string
	samples  []api.Sample
	fresh    int
	n, m     api.Nat
	rounds   int
	text     string
	from, to api.Spot
	port     int
}

// made is a translator that has seen a packet, if it can be made and can see it.
func made(in input) *route.Translator {
	x, e := route.New(in.n)
	if e != api.OK {
		x, _ = route.New(someNat)
	}
	x.Out(3, in.from, in.to)
	x.Out(3, inA, one80)
	return x
}

// madeOf are the entries of a translator that was made, with an error.
func madeOf(x *route.Translator, e api.Errno) []any {
	if x == nil {
		return all(0, e)
	}
	n, _ := x.Entries(5)
	return all(n, e)
}

// call is one of the functions of package route, with all its results.
type call struct {
	name string
	f    func(in input) []any
}

var calls = []call{
	{"CheckRouters", func(in input) []any { return all(route.CheckRouters(in.routers)) }},
	{"CheckHealth", func(in input) []any { return all(route.CheckHealth(in.health)) }},
	{"IsUp", func(in input) []any { return all(route.IsUp(in.health, in.node, in.at)) }},
	{"UpTime", func(in input) []any { return all(route.UpTime(in.health, in.node, in.w)) }},
	{"First", func(in input) []any { return all(route.First(in.routers, in.health, in.p, in.at)) }},
	{"Firsts", func(in input) []any { return all(route.Firsts(in.routers, in.health, in.at)) }},
	{"Turns", func(in input) []any { return all(route.Turns(in.routers, in.health, in.p)) }},
	{"Outage", func(in input) []any { return all(route.Outage(in.routers, in.health, in.p, in.w)) }},
	{"Way", func(in input) []any { return all(route.Way(in.routers, in.health, in.a, in.at)) }},
	{"Exits", func(in input) []any { return all(route.Exits(in.routers, in.health, in.six, in.at)) }},
	{"CheckProbes", func(in input) []any { return all(route.CheckProbes(in.probes)) }},
	{"Home", func(in input) []any { return all(route.Home(in.probes, in.gain, in.node, in.at)) }},
	{"Homes", func(in input) []any { return all(route.Homes(in.probes, in.gain, in.node)) }},
	{"CheckLinks", func(in input) []any { return all(route.CheckLinks(in.links)) }},
	{"Through", func(in input) []any { return all(route.Through(in.links, in.one, in.two)) }},
	{"Relayed", func(in input) []any { return all(route.Relayed(in.probes, in.links, in.gain, in.one, in.two, in.at)) }},
	{"CheckSamples", func(in input) []any { return all(route.CheckSamples(in.samples)) }},
	{"Used", func(in input) []any { return all(route.Used(in.samples, in.gain, in.fresh)) }},
	{"Can", func(in input) []any { return all(route.Can(in.n, in.m, in.rounds)) }},
	{"Text", func(in input) []any { return all(route.Text(in.routers)) }},
	{"Read", func(in input) []any { return all(route.Read(in.text)) }},
	{"New", func(in input) []any { return madeOf(route.New(in.n)) }},
	{"Out", func(in input) []any { return all(made(in).Out(in.at, in.from, in.to)) }},
	{"In", func(in input) []any { return all(made(in).In(in.at, in.to, in.port)) }},
	{"Entries", func(in input) []any { return all(made(in).Entries(in.at)) }},
}

// callOf is the call of a function.
func callOf(name string) func(in input) []any {
	i := slices.IndexFunc(calls, func(c call) bool { return c.name == name })
	return calls[i].f
}

func errnoOf(results []any) api.Errno { return results[len(results)-1].(api.Errno) }

// wrongInput is wrong throughout, in such a way that errors that can follow each other differ.
func wrongInput() input {
	return input{
		routers: make([]api.Router, api.MaxRouters+1), health: health("2 +a; 1 +a"), p: api.Prefix{Addr: api.Addr{Hi: 1}, Bits: 33}, a: api.Addr{Hi: 1},
		node: "A", at: -1, w: window(2, 1), probes: make([]api.Probe, api.MaxProbes+1), links: links("b a 7"), gain: -1, one: "A", two: "B",
		samples: make([]api.Sample, api.MaxSamples+1), m: api.Nat{Maps: 1, Lets: 1, Timeout: 1, First: 1, Ports: 1, Outer: api.Addr{Hi: 1}}, n: api.Nat{Lets: 1, Outer: api.Addr{Hi: 1}}, rounds: -1,
	}
}

// odd says sometimes that something shall be wrong.
func (r chance) odd() bool { return r.Intn(6) == 0 }

// behind is a list with memory behind its length.
func behind[T any](l []T, more ...T) []T { return append(slices.Clip(l), more...)[:len(l)] }

// spoil makes one of a list wrong, sometimes.
func spoil[T any](r chance, l []T, wrong ...T) {
	if len(l) > 0 && r.odd() {
		l[r.Intn(len(l))] = pick(r, wrong)
	}
}

// input is a random input: with wild it is often wrong.
func (r chance) input(wild bool) input {
	in := input{p: pick(r, someNets), a: pick(r, someAddrs), node: pick(r, someNodes), at: r.Intn(until), six: r.Intn(2) == 0, gain: r.Intn(5), fresh: 1 + r.Intn(9), n: r.nat(), m: r.nat(), rounds: r.Intn(7), port: 5_000}
	in.routers = behind(r.routers(), api.Router{Node: "A"}, api.Router{})
	in.health = behind(r.health(), api.Health{Node: "na", At: until, Up: true}, api.Health{At: -1})
	in.probes = behind(r.probes(), api.Probe{}, api.Probe{At: -1})
	in.links = behind(r.links(), api.Link{}, api.Link{A: "z"})
	in.samples = behind(r.samples(), api.Sample{}, api.Sample{At: -1})
	in.w = window(r.Intn(until), until+r.Intn(until))
	in.one, in.two = pick(r, someRelays), pick(r, someRelays)
	if r.Intn(2) == 0 {
		in.one, in.two = someNodes[0], someNodes[1]
	}
	in.m.Outer = ip("99.0.0.2")
	in.text, _ = route.Text(in.routers)
	in.from, in.to = pick(r, []api.Spot{inA, inB}), pick(r, []api.Spot{one80, two80})
	if wild {
		r.spoil(&in)
	}
	return in
}

// spoil makes parts of an input wrong.
func (r chance) spoil(in *input) {
	wrongNumber := func(n *int) {
		if r.odd() {
			*n = pick(r, []int{math.MinInt, -1, api.End + 1, math.MaxInt})
		}
	}
	wrongKey := func(s *string) {
		if r.odd() {
			*s = pick(r, []string{"", "A", "a.", strings.Repeat("a", 41)})
		}
	}
	spoil(r, in.routers, api.Router{}, api.Router{Node: "a", Weight: -1}, api.Router{Prefix: api.Prefix{Bits: math.MaxInt}, Node: "a"})
	spoil(r, in.health, api.Health{}, api.Health{At: math.MinInt, Node: "a"}, api.Health{At: math.MaxInt, Node: "a"})
	spoil(r, in.probes, api.Probe{}, api.Probe{Node: "a", Relay: "b", Millis: math.MaxInt}, api.Probe{At: math.MinInt})
	spoil(r, in.links, api.Link{}, api.Link{A: "b", B: "a"}, api.Link{A: "a", B: "b", Millis: math.MinInt})
	spoil(r, in.samples, api.Sample{}, api.Sample{Path: "a", Millis: math.MaxInt}, api.Sample{At: math.MinInt})
	for _, n := range []*int{&in.at, &in.gain, &in.fresh, &in.rounds, &in.port, &in.w.From, &in.w.To, &in.from.Port, &in.to.Port, &in.n.Timeout, &in.n.Ports, &in.n.First, &in.m.Lets} {
		wrongNumber(n)
	}
	for _, s := range []*string{&in.node, &in.one, &in.two} {
		wrongKey(s)
	}
	if r.odd() {
		in.p, in.a, in.n.Outer = api.Prefix{Bits: 33}, api.Addr{Hi: 1}, api.Addr{Lo: 1 << 32}
	}
	if text := []byte(in.text); len(text) > 0 && r.odd() {
		text[r.Intn(len(text))] = byte(r.Intn(256))
		in.text = string(text)
	}
}

// inputs are random inputs, right and wrong.
func inputs(n int) []input {
	r := newChance(11)
	return repeat(n, func(i int) input { return r.input(i%2 == 0) })
}

// alone says whether results beside an error are zero; the number of a line need not be.
func alone(name string, results []any) bool {
	for i, x := range results {
		v := reflect.ValueOf(x)
		if v.IsZero() || v.Kind() == reflect.Slice && v.Len() == 0 || name == "Read" && i == 1 {
			continue
		}
		return false
	}
	return true
}

// Z1, Z3: every call returns, without a panic; with an error all else is zero, and so it is with false. The inputs lead to both, for each function.
func TestErrorsComeAlone(t *testing.T) {
	count := map[string][2]int{}
	for _, in := range inputs(2_000) {
		for _, c := range calls {
			results := c.f(in)
			n := count[c.name]
			if errnoOf(results) == api.OK {
				n[0]++
			} else {
				n[1]++
			}
			count[c.name] = n
			no := len(results) == 3 && results[1] == any(false)
			if (errnoOf(results) != api.OK || no) && !alone(c.name, results[:len(results)-1]) {
				t.Errorf("%s: %+v with an error: %+v", c.name, in, results)
			}
		}
	}
	for _, c := range calls {
		if n := count[c.name]; n[0] < 50 || n[1] < 50 {
			t.Errorf("%s: %d right ones, %d errors", c.name, n[0], n[1])
		}
	}
}

// Z1: long arguments are no matter.
func TestLongArguments(t *testing.T) {
	const n = 200_000
	long := strings.Repeat("a", n)
	in := input{routers: make([]api.Router, n), health: make([]api.Health, n), node: long, probes: make([]api.Probe, n), links: make([]api.Link, n), one: long, two: long, samples: make([]api.Sample, n), text: long, port: n}
	for _, c := range calls {
		if e := errnoOf(c.f(in)); e == api.OK && c.name != "Entries" {
			t.Errorf("%s: %v", c.name, e)
		}
	}
	for _, name := range words("CheckRouters CheckHealth CheckProbes CheckLinks CheckSamples") {
		is(t, name, errnoOf(callOf(name)(in)), api.ErrLarge)
	}
	for _, s := range []string{strings.Repeat("\n", n), strings.Repeat(" ", n-1) + "\n", "::/0 a " + strings.Repeat("1", n-10) + "\n", strings.Repeat("::/0 a 1\n", n/9)} {
		_, _, e := route.Read(s)
		is(t, "Read", e == api.OK, false)
	}
	in = input{node: long, one: long, two: long, w: window(0, 1), fresh: 1}
	for _, name := range words("IsUp UpTime Home Homes Through Relayed") {
		is(t, name, errnoOf(callOf(name)(in)), api.ErrName)
	}
}

// shown is a value with what lies behind the lengths of its lists.
func shown(v reflect.Value) string {
	var out []string
	switch v.Kind() {
	case reflect.Slice:
		out = append(out, fmt.Sprint(v.Len()))
		v = v.Slice(0, v.Cap())
		for i := range v.Len() {
			out = append(out, shown(v.Index(i)))
		}
	case reflect.Struct:
		for i := range v.NumField() {
			out = append(out, shown(v.Field(i)))
		}
	default:
		return fmt.Sprint(v)
	}
	return "{" + strings.Join(out, " ") + "}"
}

// scribble overwrites a list.
func scribble(x any) {
	if v := reflect.ValueOf(x); v.Kind() == reflect.Slice {
		v = v.Slice(0, v.Cap())
		for i := range v.Len() {
			v.Index(i).SetZero()
		}
	}
}

// Z2, Z7: arguments are not modified, also behind their lengths; results share no memory with them, and come again.
func TestArgumentsStay(t *testing.T) {
	for _, in := range inputs(300) {
		before := shown(reflect.ValueOf(in))
		for _, c := range calls {
			first := c.f(in)
			text := fmt.Sprintf("%+v", first)
			again := c.f(in)
			for _, x := range first {
				scribble(x)
			}
			if after := shown(reflect.ValueOf(in)); after != before {
				t.Fatalf("%s: %s became %s", c.name, before, after)
			}
			for _, results := range [][]any{again, c.f(in)} {
				if s := fmt.Sprintf("%+v", results); s != text {
					t.Fatalf("%s: %s, then %s", c.name, text, s)
				}
			}
		}
	}
}

// bare is a list with nothing behind its length; nil if it is empty.
func bare[T any](l []T) []T {
	if len(l) == 0 {
		return nil
	}
	return slices.Clip(slices.Clone(l))
}

// Z2, Z5: what is behind the length of a list is not looked at, and empty lists are as nil.
func TestMemoryBehindLists(t *testing.T) {
	for _, in := range inputs(500) {
		other := in
		other.routers, other.health, other.probes, other.links, other.samples = bare(in.routers), bare(in.health), bare(in.probes), bare(in.links), bare(in.samples)
		for _, c := range calls {
			is(t, c.name, c.f(in), c.f(other))
		}
	}
	void := input{routers: []api.Router{}, health: []api.Health{}, probes: []api.Probe{}, links: []api.Link{}, samples: []api.Sample{}}
	for _, c := range calls {
		is(t, c.name, c.f(void), c.f(input{}))
	}
}

// Z1: functions can be called by several goroutines at once.
func TestAtOnce(t *testing.T) {
	list := inputs(100)
	results := func() []string {
		var out []string
		for _, in := range list {
			for _, c := range calls {
				out = append(out, fmt.Sprintf("%+v", c.f(in)))
			}
		}
		return out
	}
	want := results()
	var wait sync.WaitGroup
	for range 8 {
		wait.Go(func() {
			if !slices.Equal(results(), want) {
				t.Error("results differ")
			}
		})
	}
	wait.Wait()
}
