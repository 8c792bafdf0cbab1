package filter_test

import (
	"fmt"
	"math"
	"reflect"
	"slices"
	"strings"
	"sync"
	"testing"

	"holloway/api"
	"holloway/filter"
)

// input has an argument of each type.
type input struct {
	ports []api.Ports
	l, m  []api.Filter
	f     api.Flow
	n     api.Node
	s     api.Scene
	node  string
	text  string
	b     []byte
	p, q  api.Packet
	times api.Times
	most  int
	at    int
}

// made is a tracker that has seen two packets, if it can be made and can see them.
func made(in input) *filter.Tracker {
	x, e := filter.New(in.l, in.times, in.most)
	if e != api.OK {
		x, _ = filter.New(nil, api.Times{Young: 9, Tcp: 9, Done: 9, Other: 9}, 9)
	}
	x.Out(in.p, 5)
	x.In(in.q, 5)
	return x
}

// tracked are the flows of a tracker that was made, with an error.
func tracked(x *filter.Tracker, e api.Errno) []any {
	if x == nil {
		return all([]api.Tracked{}, e)
	}
	l, _ := x.Flows(5)
	return all(l, e)
}

// call is one of the functions of package filter, with all its results.
type call struct {
	name string
	f    func(in input) []any
}

var calls = []call{
	{"CheckPorts", func(in input) []any { return all(filter.CheckPorts(in.ports)) }},
	{"LeastPorts", func(in input) []any { return all(filter.LeastPorts(in.ports)) }},
	{"Check", func(in input) []any { return all(filter.Check(in.l)) }},
	{"Decides", func(in input) []any { return all(filter.Decides(in.l, in.f)) }},
	{"Ground", func(in input) []any { return all(filter.Ground(in.n)) }},
	{"Rows", func(in input) []any { return all(filter.Rows(in.s, in.node)) }},
	{"Squeeze", func(in input) []any { return all(filter.Squeeze(in.l)) }},
	{"Compile", func(in input) []any { return all(filter.Compile(in.s, in.node)) }},
	{"Text", func(in input) []any { return all(filter.Text(in.l)) }},
	{"Read", func(in input) []any { return all(filter.Read(in.text)) }},
	{"Sum", func(in input) []any { return all(filter.Sum(in.b), api.OK) }},
	{"CheckPacket", func(in input) []any { return all(filter.CheckPacket(in.p)) }},
	{"Write", func(in input) []any { return all(filter.Write(in.p)) }},
	{"ReadPacket", func(in input) []any { return all(filter.ReadPacket(in.b)) }},
	{"FlowOf", func(in input) []any { return all(filter.FlowOf(in.p)) }},
	{"Back", func(in input) []any { return all(filter.Back(in.f)) }},
	{"CheckTimes", func(in input) []any { return all(filter.CheckTimes(in.times)) }},
	{"New", func(in input) []any { return tracked(filter.New(in.l, in.times, in.most)) }},
	{"In", func(in input) []any { return all(made(in).In(in.q, in.at)) }},
	{"Out", func(in input) []any { return all(made(in).Out(in.q, in.at)) }},
	{"Flows", func(in input) []any { return all(made(in).Flows(in.at)) }},
	{"Set", func(in input) []any { return all(made(in).Set(in.m)) }},
}

func errnoOf(results []any) api.Errno { return results[len(results)-1].(api.Errno) }

// odd says sometimes that something shall be wrong.
func (r chance) odd(wild bool) bool { return wild && r.Intn(5) == 0 }

// behind is a list with memory behind its length.
func behind[T any](l []T, more ...T) []T { return append(slices.Clip(l), more...)[:len(l)] }

// roomy are rows whose lists have memory behind their lengths.
func roomy(l []api.Filter) []api.Filter {
	for i := range l {
		f := &l[i]
		f.Src, f.Dst, f.Ports = behind(f.Src, api.Prefix{Bits: 33}), behind(f.Dst, net("::/0"), net("::/0")), behind(f.Ports, api.Ports{From: 7})
	}
	return behind(l, api.Filter{}, api.Filter{})
}

// wrongRows makes one of some rows wrong.
func (r chance) wrongRows(l []api.Filter) {
	if len(l) > 0 {
		pick(r, rowBreaks).do(&l[r.Intn(len(l))])
	}
}

// input is a random input: with wild it is often wrong.
func (r chance) input(wild bool) input {
	in := input{ports: behind(r.ports(), api.Ports{}), l: roomy(r.rows(r.Intn(4))), m: roomy(r.rows(r.Intn(3))), s: r.scene(), node: pick(r, words("n1 n2 n3")), p: r.packet(), q: r.packet(), times: someTimes, most: 1 + r.Intn(3), at: 5 + r.Intn(20)}
	in.n = pick(r, in.s.Nodes)
	in.n.Addrs, in.n.Routes = behind(in.n.Addrs, api.Addr{Hi: 1}), behind(in.n.Routes, api.Prefix{Bits: 33})
	in.s.Nodes = behind(in.s.Nodes, api.Node{})
	in.s.Policy.Grants = behind(in.s.Policy.Grants, api.Grant{})
	in.f, _ = filter.FlowOf(in.p)
	in.text, _ = filter.Text(in.l)
	in.b, _ = filter.Write(in.p)
	in.b = behind(in.b, 1, 2, 3)
	in.p.Payload = behind(in.p.Payload, 1, 2, 3)
	if wild {
		r.spoil(&in)
	}
	return in
}

// spoil makes parts of an input wrong.
func (r chance) spoil(in *input) {
	if r.odd(true) {
		in.ports = append(in.ports, pick(r, []api.Ports{{From: 1}, {From: math.MinInt, To: math.MaxInt}, {}}))
	}
	if r.odd(true) {
		r.wrongRows(in.l)
	}
	if r.odd(true) {
		r.wrongRows(in.m)
	}
	if r.odd(true) {
		in.f = pick(r, []api.Flow{{}, {Proto: math.MaxInt}, {Proto: 6, ToPort: math.MinInt}, {Proto: 6, From: api.Addr{Six: true}}, {Proto: 6, To: api.Addr{Hi: 1}}, {Proto: 1, ToPort: 1}})
	}
	if r.odd(true) {
		in.n.Key, in.node = "A", "A"
	}
	if r.odd(true) {
		pick(r, packetBreaks).do(&in.p)
	}
	if r.odd(true) {
		pick(r, packetBreaks).do(&in.q)
	}
	if r.odd(true) {
		in.times.Done, in.at = pick(r, []int{math.MinInt, 0, math.MaxInt}), pick(r, []int{math.MinInt, 4, api.End, math.MaxInt})
	}
	if text := []byte(in.text); len(text) > 0 && r.odd(true) {
		text[r.Intn(len(text))] = byte(r.Intn(256))
		in.text = string(text)
	}
	if len(in.b) > 0 && r.odd(true) {
		in.b[r.Intn(len(in.b))] ^= byte(1 + r.Intn(255))
	}
}

// inputs are random inputs, right and wrong.
func inputs(n int) []input {
	r := newChance(11)
	return repeat(n, func(i int) input { return r.input(i%2 == 0) })
}

// alone says whether results beside an error are zero; the number of a line need not be.
func alone(name string, results []any) bool {
	for i, x := range results {
		v := reflect.ValueOf(x)
		if v.IsZero() || v.Kind() == reflect.Slice && v.Len() == 0 || name == "Read" && i == 1 {
			continue
		}
		return false
	}
	return true
}

// Z1, Z3: every call returns, without a panic; with an error all else is zero. The inputs lead to both, for each function.
func TestErrorsComeAlone(t *testing.T) {
	count := map[string][2]int{}
	for _, in := range inputs(2_000) {
		for _, c := range calls {
			results := c.f(in)
			n := count[c.name]
			if errnoOf(results) == api.OK {
				n[0]++
			} else {
				n[1]++
				if !alone(c.name, results[:len(results)-1]) {
					t.Errorf("%s: %+v with an error: %+v", c.name, in, results)
				}
			}
			count[c.name] = n
		}
	}
	for _, c := range calls {
		if n := count[c.name]; n[0] < 50 || n[1] < 50 && c.name != "Sum" {
			t.Errorf("%s: %d right ones, %d errors", c.name, n[0], n[1])
		}
	}
}

// Z1: long arguments are no matter.
func TestLongArguments(t *testing.T) {
	const n = 200_000
	long := strings.Repeat("a", n)
	in := input{ports: make([]api.Ports, n), l: make([]api.Filter, n), m: make([]api.Filter, n), n: api.Node{Key: long}, s: api.Scene{Nodes: make([]api.Node, n)}, node: long, text: long, b: make([]byte, n), p: api.Packet{Proto: 6, Payload: make([]byte, n)}}
	for _, c := range calls {
		if e := errnoOf(c.f(in)); e == api.OK && c.name != "Sum" && c.name != "Flows" && c.name != "Back" {
			t.Errorf("%s: %v", c.name, e)
		}
	}
	in.l, in.m = []api.Filter{{Src: apart(n), Dst: apart(n), Ports: make([]api.Ports, n)}}, []api.Filter{{Src: apart(1), Dst: apart(1), Ports: make([]api.Ports, n)}}
	for _, l := range [][]api.Filter{in.l, in.m} {
		is(t, "Check", filter.Check(l), api.ErrLarge)
	}
	for _, s := range []string{long, strings.Repeat(" ", n), strings.Repeat("\n", n), "6 " + strings.Repeat("::/0,", n/5-10) + "::/0 ::/0 1\n", "6 ::/0 ::/0 " + strings.Repeat("1,", n/2-10) + "1\n", "6 ::/0 ::/0 1" + strings.Repeat("-", n-20) + "\n"} {
		_, _, e := filter.Read(s)
		is(t, "Read", e == api.OK, false)
	}
}

// shown is a value with what lies behind the lengths of its lists.
func shown(v reflect.Value) string {
	var out []string
	switch v.Kind() {
	case reflect.Slice:
		out = append(out, fmt.Sprint(v.Len()))
		v = v.Slice(0, v.Cap())
		for i := range v.Len() {
			out = append(out, shown(v.Index(i)))
		}
	case reflect.Struct:
		for i := range v.NumField() {
			out = append(out, shown(v.Field(i)))
		}
	default:
		return fmt.Sprint(v)
	}
	return "{" + strings.Join(out, " ") + "}"
}

// scribble overwrites all lists of a value.
func scribble(v reflect.Value) {
	switch v.Kind() {
	case reflect.Slice:
		v = v.Slice(0, v.Cap())
		for i := range v.Len() {
			scribble(v.Index(i))
			v.Index(i).SetZero()
		}
	case reflect.Struct:
		for i := range v.NumField() {
			scribble(v.Field(i))
		}
	}
}

// Z2, Z7: arguments are not modified, also behind their lengths; results share no memory with them, and come again.
func TestArgumentsStay(t *testing.T) {
	for _, in := range inputs(150) {
		before := shown(reflect.ValueOf(in))
		for _, c := range calls {
			first := c.f(in)
			text := fmt.Sprintf("%+v", first)
			again := c.f(in)
			for _, x := range first {
				scribble(reflect.ValueOf(x))
			}
			if after := shown(reflect.ValueOf(in)); after != before {
				t.Fatalf("%s: %s became %s", c.name, before, after)
			}
			for _, results := range [][]any{again, c.f(in)} {
				if s := fmt.Sprintf("%+v", results); s != text {
					t.Fatalf("%s: %s, then %s", c.name, text, s)
				}
			}
		}
	}
}

// Z2: no two lists of one result share memory: lengthening or changing one changes no other one.
func TestResultsAreApart(t *testing.T) {
	apart := func(name string, make func() []api.Filter) {
		l, want := make(), make()
		for i := range l {
			f := &l[i]
			_, _, _ = append(f.Src, api.Prefix{}), append(f.Dst, api.Prefix{}), append(f.Ports, api.Ports{})
			is(t, name, l, want)
			scribble(reflect.ValueOf(f).Elem())
			want[i] = *f
			is(t, name, l, want)
		}
	}
	s := scene(people, "allow * -> self,self,*,*;80,member,member;7; allow user:ann -> *;80,*;81 proto 6", "")
	for _, node := range words("a r x") {
		apart("Rows", func() []api.Filter { l, _ := filter.Rows(s, node); return l })
		apart("Compile", func() []api.Filter { l, _ := filter.Compile(s, node); return l })
	}
	shared := rows("6 10.0.0.0/8 10.0.0.0/8 80; 17 10.0.0.0/8 10.0.0.0/8 80; 6 11.0.0.0/9 10.0.0.0/8 81; 6 11.0.0.0/9 10.0.0.0/8 7")
	shared[1].Src, shared[1].Dst, shared[1].Ports = shared[0].Src, shared[0].Dst, shared[0].Ports
	apart("Squeeze", func() []api.Filter { l, _ := filter.Squeeze(shared); return l })
	apart("Read", func() []api.Filter { l, _, _ := filter.Read(example); return l })
	is(t, "shared", shownRows(shared), lines("6 10.0.0.0/8 10.0.0.0/8 80; 17 10.0.0.0/8 10.0.0.0/8 80; 6 11.0.0.0/9 10.0.0.0/8 81; 6 11.0.0.0/9 10.0.0.0/8 7"))
}

// clipped is a value whose lists have nothing behind their lengths, and are nil if they are empty.
func clipped[T any](x T) T { return clippedValue(reflect.ValueOf(x)).Interface().(T) }

func clippedValue(v reflect.Value) reflect.Value {
	out := reflect.New(v.Type()).Elem()
	switch v.Kind() {
	case reflect.Slice:
		if v.Len() > 0 {
			out.Set(reflect.MakeSlice(v.Type(), v.Len(), v.Len()))
		}
		for i := range v.Len() {
			out.Index(i).Set(clippedValue(v.Index(i)))
		}
	case reflect.Struct:
		for i := range v.NumField() {
			out.Field(i).Set(clippedValue(v.Field(i)))
		}
	default:
		out.Set(v)
	}
	return out
}

// Z2, Z5: what is behind the length of a list is not looked at, and empty lists are as nil.
func TestMemoryBehindLists(t *testing.T) {
	for _, in := range inputs(500) {
		bare := in
		bare.ports, bare.l, bare.m, bare.n, bare.s, bare.b, bare.p, bare.q = clipped(in.ports), clipped(in.l), clipped(in.m), clipped(in.n), clipped(in.s), clipped(in.b), clipped(in.p), clipped(in.q)
		for _, c := range calls {
			is(t, c.name, c.f(in), c.f(bare))
		}
	}
}

// Z8: what functions return is right.
func TestResultsAreRight(t *testing.T) {
	for _, in := range inputs(1_000) {
		for _, c := range calls {
			for _, x := range c.f(in) {
				switch y := x.(type) {
				case []api.Filter:
					is(t, c.name, filter.Check(y), api.OK)
				case []api.Ports:
					is(t, c.name, filter.CheckPorts(y), api.OK)
				case api.Packet:
					if y.Proto != 0 {
						is(t, c.name, filter.CheckPacket(y), api.OK)
					}
				}
			}
		}
	}
}

// Z1: functions can be called by several goroutines at once.
func TestAtOnce(t *testing.T) {
	list := inputs(60)
	results := func() []string {
		var out []string
		for _, in := range list {
			for _, c := range calls {
				out = append(out, fmt.Sprintf("%+v", c.f(in)))
			}
		}
		return out
	}
	want := results()
	var wait sync.WaitGroup
	for range 8 {
		wait.Go(func() {
			if !slices.Equal(results(), want) {
				t.Error("results differ")
			}
		})
	}
	wait.Wait()
}
