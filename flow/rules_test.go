package flow_test

import (
	"fmt"
	"math"
	"reflect"
	"slices"
	"strings"
	"sync"
	"testing"

	"holloway/api"
	"holloway/flow"
)

// input has an argument of each type.
type input struct {
	nodes        []api.Node
	l, m         []api.Report
	from, to     string
	hours        api.Window
	many         int
	numbers      []int
	times        api.Fraction
	least        int
	ports, addrs int
	scene        api.Scene
	before       int
	bits4, bits6 int
	price        api.Price
	month        int
	text         string
}

// call is one of the functions of package flow, with all its results.
type call struct {
	name string
	f    func(in input) []any
}

var calls = []call{
	{"Check", func(in input) []any { return all(flow.Check(in.l)) }},
	{"Merge", func(in input) []any { return all(flow.Merge(in.l, in.m)) }},
	{"Pair", func(in input) []any { return all(flow.Pair(in.nodes, in.l)) }},
	{"Sums", func(in input) []any { return all(flow.Sums(in.nodes, in.l)) }},
	{"Between", func(in input) []any { return all(flow.Between(in.nodes, in.l, in.from, in.to, in.hours)) }},
	{"Top", func(in input) []any { return all(flow.Top(in.nodes, in.l, in.hours, in.many)) }},
	{"Loss", func(in input) []any { return all(flow.Loss(in.nodes, in.l, in.hours)) }},
	{"Median", func(in input) []any { return all(flow.Median(in.numbers)) }},
	{"Spread", func(in input) []any { return all(flow.Spread(in.numbers)) }},
	{"Unusual", func(in input) []any { return all(flow.Unusual(in.nodes, in.l, in.times, in.least)) }},
	{"Scans", func(in input) []any { return all(flow.Scans(in.nodes, in.l, in.ports, in.addrs)) }},
	{"Refused", func(in input) []any { return all(flow.Refused(in.scene, in.l)) }},
	{"Thin", func(in input) []any { return all(flow.Thin(in.l, in.before)) }},
	{"Hide", func(in input) []any { return all(flow.Hide(in.l, in.bits4, in.bits6)) }},
	{"CheckPrice", func(in input) []any { return all(flow.CheckPrice(in.price)) }},
	{"Bills", func(in input) []any { return all(flow.Bills(in.nodes, in.l, in.price, in.month)) }},
	{"Text", func(in input) []any { return all(flow.Text(in.l)) }},
	{"Read", func(in input) []any { return all(flow.Read(in.text)) }},
}

// callOf is the function of a name; it stops the test if there is none.
func callOf(name string) func(in input) []any {
	return calls[slices.IndexFunc(calls, func(c call) bool { return c.name == name })].f
}

func errnoOf(results []any) api.Errno { return results[len(results)-1].(api.Errno) }

// A step mends the first thing that is wrong with an input, which had an error.
type step struct {
	e    api.Errno
	mend func(in *input)
}

// ladder looks at the errors of a call with an input that is wrong throughout, and is mended step by step.
func ladder(t *testing.T, name string, steps ...step) {
	t.Helper()
	f := callOf(name)
	in := input{
		nodes: []api.Node{{Key: "a", Name: "a"}}, l: []api.Report{{}}, m: reports("1 a in 1 :: :: 0 0 1 0; 0 a in 1 :: :: 0 0 1 0"),
		hours: hours(1, 0), many: -1, least: 0, scene: api.Scene{Nodes: []api.Node{{Key: "A"}}, Policy: api.Policy{Grants: []api.Grant{{}}}}, before: -1, bits4: -1, bits6: -1, price: api.Price{Free: -1}, month: -1, text: "\n",
	}
	for i, s := range steps {
		is(t, fmt.Sprint(name, ", step ", i), errnoOf(f(in)), s.e)
		s.mend(&in)
	}
	is(t, name+", mended", errnoOf(f(in)), api.OK)
}

// P9.1, P9.2, P9.3, P9.4, P9.5, P9.6, Z4
func TestErrorsInOrder(t *testing.T) {
	l := step{api.ErrName, func(in *input) { in.l = nil }}
	n := step{api.ErrForm, func(in *input) { in.nodes = nil }}
	w := step{api.ErrArg, func(in *input) { in.hours = always }}
	ladder(t, "Check", l)
	ladder(t, "Merge", l, step{api.ErrOrder, func(in *input) { in.l, in.m = many(api.MaxReports), many(api.MaxReports + 1)[1:]; in.m[0].Bytes++ }},
		step{api.ErrConflict, func(in *input) { in.m[0].Bytes-- }}, step{api.ErrLarge, func(in *input) { in.m = in.m[1:5] }})
	ladder(t, "Pair", n, l)
	ladder(t, "Sums", n, l)
	ladder(t, "Between", n, l, step{api.ErrName, func(in *input) { in.from = "a" }}, step{api.ErrName, func(in *input) { in.to = "a" }}, w)
	ladder(t, "Top", n, l, w, step{api.ErrArg, func(in *input) { in.many = 100 }})
	ladder(t, "Loss", n, l, w, step{api.ErrNone, func(in *input) {
		in.nodes, in.l = three(), reports("1 a out 1 10.0.0.1 10.0.0.2 0 0 1 0; 1 b in 1 10.0.0.1 10.0.0.2 0 0 1 0")
	}})
	ladder(t, "Unusual", n, l, step{api.ErrArg, func(in *input) { in.times.Den = 1 }}, step{api.ErrArg, func(in *input) { in.least = 1 }})
	ladder(t, "Scans", n, l, step{api.ErrArg, func(in *input) { in.ports = 1 }}, step{api.ErrArg, func(in *input) { in.addrs = 1 }})
	ladder(t, "Refused", step{api.ErrForm, func(in *input) { in.scene.Policy = api.Policy{} }}, step{api.ErrName, func(in *input) { in.scene.Nodes, in.l[0].Node = nil, "a" }}, step{api.ErrArg, func(in *input) { in.l = nil }})
	ladder(t, "Thin", l, step{api.ErrArg, func(in *input) { in.before = 4_001 }})
	ladder(t, "Hide", l, step{api.ErrArg, func(in *input) { in.bits4 = 32 }}, step{api.ErrArg, func(in *input) { in.bits6 = 128 }})
	ladder(t, "CheckPrice", step{api.ErrArg, func(in *input) { in.price.Free = 0 }})
	ladder(t, "Bills", n, l, step{api.ErrArg, func(in *input) { in.price.Free = 0 }}, step{api.ErrArg, func(in *input) { in.month = 133 }})
	ladder(t, "Text", l)
	ladder(t, "Read", step{api.ErrSyntax, func(in *input) { in.text = "" }})
}

// P9.1, P9.2: all functions tell what is wrong with nodes, and with reports.
func TestChecksOfAll(t *testing.T) {
	r := newChance(14)
	for _, c := range calls {
		if strings.Contains("Check Merge Pair Sums Between Top Loss Unusual Scans Refused Thin Hide Bills Text", c.name) {
			for _, s := range spoilers() {
				in := r.input(false)
				in.l = reports("1 a in 1 10.0.0.1 10.0.0.2 0 0 1 0; 2 a in 1 10.0.0.1 10.0.0.2 0 0 1 0")
				s.do(&in.l[1])
				is(t, c.name+": "+s.name, errnoOf(c.f(in)), s.e)
			}
		}
		if strings.Contains("Pair Sums Between Top Loss Unusual Scans Refused Bills", c.name) {
			for s, e := range map[string]api.Errno{"A ann": api.ErrName, "b ann; a ann": api.ErrOrder, "a Ann": api.ErrName, "a #b,a": api.ErrOrder, "a ann ::1; b ann ::1": api.ErrTwice} {
				in := r.input(false)
				in.nodes = nodes(s)
				in.scene = api.Scene{Nodes: in.nodes}
				is(t, c.name+": "+s, errnoOf(c.f(in)), e)
			}
		}
	}
}

// own is a value in memory of its own, whose lists have nothing behind their lengths, and are nil if they are empty; with roomy they have a value like the last one there.
func own[T any](x T, roomy bool) T {
	out := reflect.New(reflect.TypeOf(x)).Elem()
	ownValue(out, reflect.ValueOf(x), roomy)
	return out.Interface().(T)
}

func ownValue(out, v reflect.Value, roomy bool) {
	switch v.Kind() {
	case reflect.Slice:
		n := v.Len()
		if n > 0 {
			room := n
			if roomy {
				room += 2
			}
			out.Set(reflect.MakeSlice(v.Type(), room, room))
			for i := range room {
				ownValue(out.Index(i), v.Index(min(i, n-1)), roomy)
			}
			out.Set(out.Slice(0, n))
		}
	case reflect.Struct:
		for i := range v.NumField() {
			ownValue(out.Field(i), v.Field(i), roomy)
		}
	default:
		out.Set(v)
	}
}

// ownInput is an input in memory of its own.
func ownInput(in input, roomy bool) input {
	in.nodes, in.l, in.m, in.numbers, in.scene = own(in.nodes, roomy), own(in.l, roomy), own(in.m, roomy), own(in.numbers, roomy), own(in.scene, roomy)
	return in
}

// input is a random input: with wild it is often wrong.
func (r chance) input(wild bool) input {
	n := r.nodes()
	in := input{nodes: n, l: r.reports(n), from: pick(r, someKeys), to: pick(r, someKeys), hours: r.hours(), many: r.Intn(5), times: api.Fraction{Num: r.Intn(4), Den: 1 + r.Intn(3)}, least: 1 + r.Intn(4)}
	in.m = some(r, r.reports(n))
	if r.Intn(2) == 0 {
		in.m = some(r, in.l)
	}
	in.ports, in.addrs, in.scene, in.before, in.month = 1+r.Intn(3), 1+r.Intn(3), r.scene(n), r.Intn(60), r.Intn(3)
	in.numbers = repeat(1+r.Intn(9), func(int) int { return r.Intn(20) })
	in.bits4, in.bits6, in.price = r.Intn(33), r.Intn(129), api.Price{Free: r.Intn(3), Cents: r.Intn(100)}
	in.text, _ = flow.Text(in.l[:min(len(in.l), 20)])
	if wild {
		r.spoil(&in)
	}
	return ownInput(in, true)
}

// odd says sometimes that something shall be wrong.
func (r chance) odd() bool { return r.Intn(8) == 0 }

// oddNumber is a number that is mostly out of its range.
func (r chance) oddNumber() int {
	return pick(r, []int{math.MinInt, -1, 0, 4_002, endHour + 1, math.MaxInt})
}

// spoil makes parts of an input wrong.
func (r chance) spoil(in *input) {
	for _, l := range []*[]api.Report{&in.l, &in.m} {
		if r.odd() {
			*l = append(*l, pick(r, []api.Report{{}, {Node: "n", Hour: math.MaxInt}, {Node: "n", Flow: api.Flow{Proto: 6, From: api.Addr{Hi: 1}}}, {Node: "n", Flow: api.Flow{Proto: 6}, Packets: math.MinInt}}))
		}
	}
	if r.odd() {
		in.nodes = append(in.nodes, pick(r, []api.Node{{}, {Key: "z", Name: "z"}, {Key: "z", Name: "z", User: "ann", Addrs: make([]api.Addr, 5)}}))
	}
	if r.odd() {
		in.scene.Nodes = append(in.scene.Nodes, api.Node{})
	}
	for _, n := range []*int{&in.hours.From, &in.hours.To, &in.many, &in.times.Num, &in.times.Den, &in.least, &in.ports, &in.addrs, &in.before, &in.bits4, &in.bits6, &in.price.Free, &in.price.Cents, &in.month, &in.numbers[0]} {
		if r.odd() {
			*n = r.oddNumber()
		}
	}
	if r.odd() {
		in.from, in.to = pick(r, notKeys), pick(r, notKeys)
	}
	if r.odd() {
		in.text += pick(r, words("x \n 5\n"))
	}
}

// inputs are random inputs, right and wrong.
func inputs(n int) []input {
	r := newChance(15)
	return repeat(n, func(i int) input { return r.input(i%2 == 0) })
}

// alone says whether results beside an error are zero; the number of a line need not be.
func alone(name string, results []any) bool {
	for i, x := range results {
		v := reflect.ValueOf(x)
		if !v.IsZero() && (v.Kind() != reflect.Slice || v.Len() > 0) && (name != "Read" || i != 1) {
			return false
		}
	}
	return true
}

// Z1, Z3, Z6: every call returns, without a panic; with an error all else is zero. The inputs lead to both, for each function.
func TestErrorsComeAlone(t *testing.T) {
	count := map[string][2]int{}
	for _, in := range inputs(2_000) {
		for _, c := range calls {
			results := c.f(in)
			n := count[c.name]
			if errnoOf(results) == api.OK {
				n[0]++
			} else {
				n[1]++
				if !alone(c.name, results[:len(results)-1]) {
					t.Errorf("%s: %+v with an error: %+v", c.name, in, results)
				}
			}
			count[c.name] = n
		}
	}
	for _, c := range calls {
		if n := count[c.name]; n[0] < 100 || n[1] < 50 {
			t.Errorf("%s: %d right ones, %d errors", c.name, n[0], n[1])
		}
	}
}

// Z1: long arguments are no matter.
func TestLongArguments(t *testing.T) {
	const n = 200_000
	long := strings.Repeat("a", n)
	in := input{nodes: make([]api.Node, n), l: make([]api.Report, n), m: make([]api.Report, n), from: long, to: long, hours: hours(1, 0), numbers: make([]int, n), scene: api.Scene{Nodes: make([]api.Node, n), Facts: make([]api.Fact, n)}, price: api.Price{Free: -1}}
	for _, s := range []string{long, strings.Repeat(" ", n), strings.Repeat("\n", n), strings.Repeat("0 a in 1 :: :: 0 0 1 0\n", n/23), strings.Repeat("a", n+1)} {
		in.text = s
		for _, c := range calls {
			if e := errnoOf(c.f(in)); e == api.OK {
				t.Errorf("%s: no error", c.name)
			}
		}
	}
	in.nodes, in.l = three(), nil
	is(t, "Between", errnoOf(callOf("Between")(in)), api.ErrName)
	in.l = []api.Report{{Node: long}}
	is(t, "Check", flow.Check(in.l), api.ErrName)
}

// shown is a value with what lies behind the lengths of its lists.
func shown(v reflect.Value) string {
	var out []string
	switch v.Kind() {
	case reflect.Slice:
		out = append(out, fmt.Sprint(v.Len()))
		v = v.Slice(0, v.Cap())
		for i := range v.Len() {
			out = append(out, shown(v.Index(i)))
		}
	case reflect.Struct:
		for i := range v.NumField() {
			out = append(out, shown(v.Field(i)))
		}
	default:
		return fmt.Sprint(v)
	}
	return "{" + strings.Join(out, " ") + "}"
}

// scribble overwrites a list.
func scribble(x any) {
	v := reflect.ValueOf(x)
	if v.Kind() == reflect.Slice {
		v = v.Slice(0, v.Cap())
		for i := range v.Len() {
			v.Index(i).SetZero()
		}
	}
}

// Z2, Z7: arguments are not modified, also behind their lengths; results share no memory with them, and come again.
func TestArgumentsStay(t *testing.T) {
	for _, in := range inputs(300) {
		before := shown(reflect.ValueOf(in))
		for _, c := range calls {
			first := c.f(in)
			text := fmt.Sprintf("%+v", first)
			again := c.f(in)
			for _, x := range first {
				scribble(x)
			}
			if after := shown(reflect.ValueOf(in)); after != before {
				t.Fatalf("%s: %s became %s", c.name, before, after)
			}
			for _, results := range [][]any{again, c.f(in)} {
				if s := fmt.Sprintf("%+v", results); s != text {
					t.Fatalf("%s: %s, then %s", c.name, text, s)
				}
			}
		}
	}
}

// Z2, Z5: what is behind the length of a list is not looked at, and empty lists are as nil.
func TestMemoryBehindLists(t *testing.T) {
	for _, in := range inputs(500) {
		bare := ownInput(in, false)
		for _, c := range calls {
			is(t, c.name, c.f(in), c.f(bare))
		}
	}
	empty := input{nodes: []api.Node{}, l: []api.Report{}, m: []api.Report{}, from: "a", to: "a", hours: always, numbers: []int{}, times: api.Fraction{Den: 1}, least: 1, ports: 1, addrs: 1}
	for _, c := range calls {
		is(t, c.name, c.f(empty), c.f(ownInput(empty, false)))
	}
}

// P9.1: what functions return is right.
func TestResultsAreRight(t *testing.T) {
	for _, in := range inputs(1_000) {
		for _, c := range calls {
			for _, x := range c.f(in) {
				switch y := x.(type) {
				case []api.Report:
					is(t, c.name, flow.Check(y), api.OK)
				case api.Fraction:
					for d := 2; d <= min(y.Den, 1_000); d++ {
						is(t, "lowest terms", y.Num%d == 0 && y.Den%d == 0, false)
					}
				}
			}
		}
	}
}

// Z1: functions can be called by several goroutines at once.
func TestAtOnce(t *testing.T) {
	list := inputs(60)
	results := func() []string {
		var out []string
		for _, in := range list {
			for _, c := range calls {
				out = append(out, fmt.Sprintf("%+v", c.f(in)))
			}
		}
		return out
	}
	want := results()
	var wait sync.WaitGroup
	for range 8 {
		wait.Go(func() {
			if !slices.Equal(results(), want) {
				t.Error("results differ")
			}
		})
	}
	wait.Wait()
}
