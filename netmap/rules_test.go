package netmap_test

import (
	"fmt"
	"math"
	"reflect"
	"slices"
	"strings"
	"sync"
	"testing"

	"holloway/api"
	"holloway/netmap"
)

// input has an argument of each type.
type input struct {
	w, x     api.World
	keep     int
	node     string
	m, n     api.Map
	p, q     api.Patch
	name     string
	a        api.Addr
	text     string
	version  int
	versions []int
	u        api.Update
}

// made is a server with two worlds, if it can be made.
func made(in input) *netmap.Server {
	s, e := netmap.NewServer(in.w, in.keep)
	if e != api.OK {
		s = serve(api.World{Suffix: "x"}, 1)
	}
	s.Change(in.w)
	return s
}

// served is what a server that was made says, with an error.
func served(s *netmap.Server, e api.Errno) []any {
	if s == nil {
		return all(0, e)
	}
	return all(s.Version(), e)
}

// call is one of the functions of package netmap, with all its results.
type call struct {
	name string
	f    func(in input) []any
}

var calls = []call{
	{"CheckWorld", func(in input) []any { return all(netmap.CheckWorld(in.w)) }},
	{"Make", func(in input) []any { return all(netmap.Make(in.w, in.node)) }},
	{"CheckMap", func(in input) []any { return all(netmap.CheckMap(in.m)) }},
	{"Same", func(in input) []any { return all(netmap.Same(in.m, in.n)) }},
	{"Between", func(in input) []any { return all(netmap.Between(in.m, in.n)) }},
	{"CheckPatch", func(in input) []any { return all(netmap.CheckPatch(in.p)) }},
	{"Apply", func(in input) []any { return all(netmap.Apply(in.m, in.p)) }},
	{"Join", func(in input) []any { return all(netmap.Join(in.p, in.q)) }},
	{"Lookup", func(in input) []any { return all(netmap.Lookup(in.m, in.name)) }},
	{"Way", func(in input) []any { return all(netmap.Way(in.m, in.a)) }},
	{"Text", func(in input) []any { return all(netmap.Text(in.m)) }},
	{"Read", func(in input) []any { return all(netmap.Read(in.text)) }},
	{"Digest", func(in input) []any { return all(netmap.Digest(in.m)) }},
	{"NewServer", func(in input) []any { return served(netmap.NewServer(in.w, in.keep)) }},
	{"Change", func(in input) []any { return all(made(in).Change(in.x)) }},
	{"Poll", func(in input) []any { return all(made(in).Poll(in.node, in.version)) }},
	{"Behind", func(in input) []any { return all(made(in).Behind(in.versions)) }},
	{"Take", func(in input) []any { return all(netmap.Take(in.m, in.version, in.u)) }},
}

func errnoOf(results []any) api.Errno { return results[len(results)-1].(api.Errno) }

// odd says sometimes that something shall be wrong.
func (r chance) odd() bool { return r.Intn(6) == 0 }

// roomyValue is a value whose lists have memory behind their lengths, with something in it.
func roomyValue(v reflect.Value) reflect.Value {
	out := reflect.New(v.Type()).Elem()
	out.Set(v)
	switch v.Kind() {
	case reflect.Slice:
		l := reflect.MakeSlice(v.Type(), 0, v.Len()+2)
		for i := range v.Len() {
			l = reflect.Append(l, roomyValue(v.Index(i)))
		}
		more := reflect.New(v.Type().Elem()).Elem()
		if v.Len() > 0 {
			more = v.Index(v.Len() - 1)
		}
		out.Set(reflect.Append(l, more, more).Slice(0, v.Len()))
	case reflect.Struct:
		for i := range v.NumField() {
			out.Field(i).Set(roomyValue(v.Field(i)))
		}
	}
	return out
}

func roomy[T any](x T) T { return roomyValue(reflect.ValueOf(x)).Interface().(T) }

// input is a random input: with wild it is often wrong.
func (r chance) input(wild bool) input {
	in := input{w: r.world(), x: r.world(), keep: 1 + r.Intn(3), node: pick(r, someKeys), m: r.told(), name: pick(r, someNames), a: pick(r, eachAddr), version: r.Intn(3), versions: []int{r.Intn(3), r.Intn(3)}}
	in.n = r.like(in.m)
	in.p, _ = netmap.Between(in.m, in.n)
	in.q, _ = netmap.Between(in.n, r.like(in.n))
	in.text, _ = netmap.Text(in.m)
	in.u = api.Update{Version: r.Intn(4), Whole: r.Intn(2) == 0}
	if in.u.Whole {
		in.u.Map = own(in.n)
	} else {
		in.u.Patch = own(in.p)
	}
	if wild {
		r.spoil(&in)
	}
	in.w, in.x, in.m, in.n, in.p, in.q, in.u, in.versions = roomy(in.w), roomy(in.x), roomy(in.m), roomy(in.n), roomy(in.p), roomy(in.q), roomy(in.u), roomy(in.versions)
	return in
}

// spoil makes parts of an input wrong.
func (r chance) spoil(in *input) {
	for _, w := range []*api.World{&in.w, &in.x} {
		if r.odd() {
			w.Firsts = append(w.Firsts, pick(r, []api.First{{}, {Prefix: net("::/0"), Node: "n1"}, {Prefix: api.Prefix{Bits: math.MinInt}}}))
		}
		if r.odd() {
			w.Suffix = pick(r, []string{"", "A", "a..b"})
		}
	}
	for _, m := range []*api.Map{&in.m, &in.n, &in.u.Map} {
		if r.odd() {
			m.Suffix = "X"
		}
		if r.odd() {
			m.Peers = append(m.Peers, pick(r, []api.Peer{{}, {Key: "a", Name: "a"}, {Key: "z", Name: "z", Addrs: make([]api.Addr, 5)}, {Key: "z", Name: "z", Routes: []api.Prefix{{Bits: math.MaxInt}}}}))
		}
	}
	for _, p := range []*api.Patch{&in.p, &in.q, &in.u.Patch} {
		if r.odd() {
			p.Gone = append(p.Gone, pick(r, words("A a z")))
		}
		if r.odd() {
			p.HasSelf = !p.HasSelf
		}
	}
	if r.odd() {
		in.keep, in.node, in.name = pick(r, []int{math.MinInt, 0, 51, math.MaxInt}), pick(r, []string{"", "A", "z"}), pick(r, []string{"", "z", "box.corp.net"})
	}
	if r.odd() {
		in.version, in.a = pick(r, []int{math.MinInt, -1, 9, math.MaxInt}), api.Addr{Hi: 1}
		in.versions = append(in.versions, in.version)
	}
	if r.odd() {
		in.text = r.change(in.text)
	}
}

// inputs are random inputs, right and wrong.
func inputs(n int) []input {
	r := newChance(11)
	return repeat(n, func(i int) input { return r.input(i%2 == 0) })
}

// alone says whether results beside an error are zero; the number of a line need not be.
func alone(name string, results []any) bool {
	for i, x := range results {
		v := reflect.ValueOf(x)
		if !v.IsZero() && (v.Kind() != reflect.Slice || v.Len() > 0) && (name != "Read" || i != 1) {
			return false
		}
	}
	return true
}

// Z1, Z3: every call returns, without a panic; with an error all else is zero. The inputs lead to both, for each function.
func TestErrorsComeAlone(t *testing.T) {
	count := map[string][2]int{}
	for _, in := range inputs(1_000) {
		for _, c := range calls {
			results := c.f(in)
			n := count[c.name]
			if errnoOf(results) == api.OK {
				n[0]++
			} else {
				n[1]++
				if !alone(c.name, results[:len(results)-1]) {
					t.Errorf("%s: %+v with an error: %+v", c.name, in, results)
				}
			}
			count[c.name] = n
		}
	}
	for _, c := range calls {
		if n := count[c.name]; n[0] < 50 || n[1] < 50 {
			t.Errorf("%s: %d right ones, %d errors", c.name, n[0], n[1])
		}
	}
}

// Z1: long arguments are no matter.
func TestLongArguments(t *testing.T) {
	const n = 200_000
	long := strings.Repeat("a", n)
	self := api.Node{Key: "a", Name: "a", User: "ann"}
	worlds := []api.World{
		{Suffix: long},
		{Suffix: "x", Firsts: make([]api.First, n)},
		{Suffix: "x", Scene: api.Scene{Nodes: make([]api.Node, n)}},
		{Suffix: "x", Scene: api.Scene{Nodes: []api.Node{{Key: "a", Name: "a", User: "ann", Routes: make([]api.Prefix, n)}}}, Firsts: make([]api.First, n)},
	}
	maps := []api.Map{
		{Self: self, Suffix: long},
		{Self: self, Suffix: "x", Peers: make([]api.Peer, n)},
		{Self: self, Suffix: "x", Filters: make([]api.Filter, n)},
		{Self: self, Suffix: "x", Peers: []api.Peer{{Key: "b", Name: "b", Addrs: make([]api.Addr, n)}}},
		{Self: self, Suffix: "x", Peers: []api.Peer{{Key: "b", Name: "b", Routes: make([]api.Prefix, n)}}},
		{Self: api.Node{Key: "a", Name: "a", User: "ann", Tags: make([]string, n)}, Suffix: "x"},
		{Self: api.Node{Key: long, Name: "a", User: "ann"}, Suffix: "x"},
	}
	patches := []api.Patch{{Gone: make([]string, n)}, {Put: make([]api.Peer, n)}, {Filters: make([]api.Filter, n)}, {Self: api.Node{Addrs: make([]api.Addr, n)}}, {HasSuffix: true, Suffix: long}}
	for i := range 7 {
		in := input{w: worlds[i%4], x: worlds[i%4], keep: 1, node: long, m: maps[i], n: maps[i], p: patches[i%5], q: patches[i%5], name: long, text: long, versions: make([]int, n), u: api.Update{Patch: patches[i%5]}}
		for _, c := range calls {
			if e := errnoOf(c.f(in)); e == api.OK {
				t.Errorf("%s: no error", c.name)
			}
		}
	}
	for _, s := range []string{strings.Repeat(" ", n), strings.Repeat("\n", n), "self " + strings.Repeat("a ", n/2-3) + "\n", "self a a a\nsuffix " + long[:n-20] + "\n", "self a a a\nsuffix x\nfilter " + strings.Repeat(" ", n-30) + "\n", "self a a a\n" + strings.Repeat("tag a\n", n/6-3)} {
		_, _, e := netmap.Read(s)
		is(t, "Read", e == api.OK, false)
	}
	_, e := netmap.Lookup(told("a a ann", "", ""), long)
	is(t, "Lookup", e, api.ErrNone)
}

// shown is a value with what lies behind the lengths of its lists.
func shown(v reflect.Value) string {
	var out []string
	switch v.Kind() {
	case reflect.Slice:
		out = append(out, fmt.Sprint(v.Len()))
		v = v.Slice(0, v.Cap())
		for i := range v.Len() {
			out = append(out, shown(v.Index(i)))
		}
	case reflect.Struct:
		for i := range v.NumField() {
			out = append(out, shown(v.Field(i)))
		}
	default:
		return fmt.Sprint(v)
	}
	return "{" + strings.Join(out, " ") + "}"
}

// scribble overwrites all lists of a value.
func scribble(x any) { scribbleValue(reflect.ValueOf(x)) }

func scribbleValue(v reflect.Value) {
	switch v.Kind() {
	case reflect.Slice:
		v = v.Slice(0, v.Cap())
		for i := range v.Len() {
			scribbleValue(v.Index(i))
			v.Index(i).SetZero()
		}
	case reflect.Struct:
		for i := range v.NumField() {
			scribbleValue(v.Field(i))
		}
	}
}

// Z2, Z7: arguments are not modified, also behind their lengths; results share no memory with them, and come again.
func TestArgumentsStay(t *testing.T) {
	for _, in := range inputs(200) {
		before := shown(reflect.ValueOf(in))
		for _, c := range calls {
			first := c.f(in)
			text := fmt.Sprintf("%+v", first)
			again := c.f(in)
			for _, x := range first {
				scribble(x)
			}
			if after := shown(reflect.ValueOf(in)); after != before {
				t.Fatalf("%s: %s became %s", c.name, before, after)
			}
			for _, results := range [][]any{again, c.f(in)} {
				if s := fmt.Sprintf("%+v", results); s != text {
					t.Fatalf("%s: %s, then %s", c.name, text, s)
				}
			}
		}
	}
}

// lists are all lists of a value that have room for something.
func lists(v reflect.Value) []reflect.Value {
	var out []reflect.Value
	switch v.Kind() {
	case reflect.Slice:
		if v.Cap() > 0 {
			out = append(out, v)
		}
		for i := range v.Len() {
			out = append(out, lists(v.Index(i))...)
		}
	case reflect.Struct:
		for i := range v.NumField() {
			out = append(out, lists(v.Field(i))...)
		}
	}
	return out
}

// Z2: no two lists of one result share memory, also behind their lengths.
func TestResultsAreApart(t *testing.T) {
	for _, in := range inputs(200) {
		for _, c := range calls {
			owner := map[uintptr]int{}
			for _, x := range c.f(in) {
				for i, l := range lists(reflect.ValueOf(x)) {
					whole := l.Slice(0, l.Cap())
					for k := range whole.Len() {
						at := whole.Index(k).Addr().Pointer()
						if other, is := owner[at]; is && other != i {
							t.Fatalf("%s: lists %d and %d share memory", c.name, other, i)
						}
						owner[at] = i
					}
				}
			}
		}
	}
}

// Z2, Z5: what is behind the length of a list is not looked at, and empty lists are as nil.
func TestMemoryBehindLists(t *testing.T) {
	for _, in := range inputs(500) {
		bare := in
		bare.w, bare.x, bare.m, bare.n, bare.p, bare.q, bare.u, bare.versions = own(in.w), own(in.x), own(in.m), own(in.n), own(in.p), own(in.q), own(in.u), own(in.versions)
		for _, c := range calls {
			is(t, c.name, c.f(in), c.f(bare))
		}
	}
}

// Z8: what functions return is right.
func TestResultsAreRight(t *testing.T) {
	for _, in := range inputs(500) {
		for _, c := range calls {
			results := c.f(in)
			if errnoOf(results) != api.OK {
				continue
			}
			for _, x := range results {
				switch y := x.(type) {
				case api.Map:
					is(t, c.name, netmap.CheckMap(y), api.OK)
				case api.Patch:
					is(t, c.name, netmap.CheckPatch(y), api.OK)
				case api.Update:
					if y.Whole {
						is(t, c.name, netmap.CheckMap(y.Map), api.OK)
						is(t, c.name, y.Patch, api.Patch{})
					} else {
						is(t, c.name, netmap.CheckPatch(y.Patch), api.OK)
						is(t, c.name, y.Map, api.Map{})
					}
				}
			}
		}
	}
}

// Z1: functions can be called by several goroutines at once.
func TestAtOnce(t *testing.T) {
	list := inputs(60)
	results := func() []string {
		var out []string
		for _, in := range list {
			for _, c := range calls {
				out = append(out, fmt.Sprintf("%+v", c.f(in)))
			}
		}
		return out
	}
	want := results()
	var wait sync.WaitGroup
	for range 8 {
		wait.Go(func() {
			if !slices.Equal(results(), want) {
				t.Error("results differ")
			}
		})
	}
	wait.Wait()
}
