package node_test

import (
	"fmt"
	"math"
	"math/rand"
	"reflect"
	"slices"
	"strings"
	"sync"
	"testing"

	"holloway/api"
	"holloway/node"
)

// input has an argument of each type, of some two.
type input struct {
	d          api.Directory
	l, m       []api.Step
	s          api.Step
	node, user string
	tag        string
	public     string
	text       string
	at, within int
	w          api.Window
	places     []api.Place
}

// call is one of the functions of package node, with all its results, and which arguments it has.
type call struct {
	name                   string
	directory, log, moment bool
	f                      func(in input) []any
}

var calls = []call{
	{"CheckDirectory", true, false, false, func(in input) []any { return all(node.CheckDirectory(in.d)) }},
	{"Owns", true, false, false, func(in input) []any { return all(node.Owns(in.d, in.user, in.tag)) }},
	{"Check", false, true, false, func(in input) []any { return all(node.Check(in.l)) }},
	{"Merge", false, true, false, func(in input) []any { return all(node.Merge(in.l, in.m)) }},
	{"Refused", true, true, false, func(in input) []any { return all(node.Refused(in.d, in.l)) }},
	{"Why", true, true, false, func(in input) []any { return all(node.Why(in.d, in.l, in.s)) }},
	{"Machines", true, true, true, func(in input) []any { return all(node.Machines(in.d, in.l, in.at)) }},
	{"StateOf", true, true, true, func(in input) []any { return all(node.StateOf(in.d, in.l, in.node, in.at)) }},
	{"Joins", true, true, true, func(in input) []any { return all(node.Joins(in.d, in.l, in.at)) }},
	{"Live", true, true, true, func(in input) []any { return all(node.Live(in.d, in.l, in.at)) }},
	{"Ending", true, true, true, func(in input) []any { return all(node.Ending(in.d, in.l, in.at, in.within)) }},
	{"NextChange", true, true, true, func(in input) []any { return all(node.NextChange(in.d, in.l, in.at)) }},
	{"LiveTime", true, true, false, func(in input) []any { return all(node.LiveTime(in.d, in.l, in.node, in.w)) }},
	{"Keys", true, true, false, func(in input) []any { return all(node.Keys(in.d, in.l, in.node)) }},
	{"NodeOf", true, true, true, func(in input) []any { return all(node.NodeOf(in.d, in.l, in.public, in.at)) }},
	{"Managed", true, true, true, func(in input) []any { return all(node.Managed(in.d, in.l, in.user, in.at)) }},
	{"Orphans", true, true, true, func(in input) []any { return all(node.Orphans(in.d, in.l, in.user, in.at)) }},
	{"Nodes", true, true, true, func(in input) []any { return all(node.Nodes(in.d, in.l, in.places, in.at)) }},
	{"Text", false, true, false, func(in input) []any { return all(node.Text(in.l)) }},
	{"Read", false, false, false, func(in input) []any { return all(node.Read(in.text)) }},
}

func errnoOf(results []any) api.Errno { return results[len(results)-1].(api.Errno) }

// odd says sometimes that something shall be wrong.
func (r chance) odd(wild bool) bool { return wild && r.Intn(8) == 0 }

// behind is a list with memory behind its length.
func behind[T any](l []T, more ...T) []T { return append(slices.Clip(l), more...)[:len(l)] }

// wrongStep makes a step that may be wrong.
func (r chance) wrongStep(s *api.Step) {
	numbers := []int{-1, 0, 1, api.End, 1_000_001, math.MinInt, math.MaxInt}
	n, word := numbers[r.Intn(len(numbers))], notKeys[r.Intn(len(notKeys))]
	switch r.Intn(11) {
	case 0:
		s.At = n
	case 1:
		s.No = n
	case 2:
		s.Kind = n
	case 3:
		s.Until = n
	case 4:
		s.Uses = n
	case 5:
		s.Server = word
	case 6:
		s.By = word
	case 7:
		s.Node = word
	case 8:
		s.Public = word
	case 9:
		s.Tags = append(s.Tags, word)
	case 10:
		s.Ready = !s.Ready
	}
}

// steps is a log, with memory behind its length and those of its lists.
func (r chance) steps(wild bool) []api.Step {
	l := r.log()
	for i := range l {
		l[i].Tags = behind(l[i].Tags, "", "zz")
	}
	if len(l) > 0 && r.odd(wild) {
		r.wrongStep(&l[r.Intn(len(l))])
	}
	if len(l) > 0 && r.odd(wild) {
		l = append(l, l[r.Intn(len(l))])
	}
	return behind(l, api.Step{}, by("zz", 9, "345686399 gone ann n1"))
}

// places are places of some nodes.
func (r chance) places(wild bool) []api.Place {
	var out []api.Place
	for i, x := range nodesOf {
		if r.Intn(2) == 0 {
			p := place(x, v4(uint64(i), uint64(i+20)), net(0, i), net(0, i+1))
			p.Addrs, p.Routes = behind(p.Addrs, api.Addr{Hi: 1}), behind(p.Routes, net(1, 99))
			out = append(out, p)
		}
	}
	if len(out) > 0 && r.odd(wild) {
		out = append(out, out[0])
	}
	return behind(out, api.Place{Node: "A"})
}

// input is a random input: with wild it is often wrong.
func (r chance) input(wild bool) input {
	in := input{d: r.directory(), l: r.steps(wild), node: r.one("n1 n2 n3 n4 n5 n6 n7 n8"), user: r.one("ann bob cid"), tag: r.one("db old ops web"), public: r.public()}
	in.m = in.l
	for len(in.m) > 0 && r.Intn(3) > 0 {
		in.m = slices.Delete(slices.Clone(in.m), 0, 1)
	}
	in.at, in.within = r.Intn(250), r.Intn(250)
	in.w = window(r.Intn(100), 100+r.Intn(300))
	in.s, in.places = r.step(1+r.Intn(9), 2_000), r.places(wild)
	in.s.Server, in.s.No, in.s.Tags = "a", 200, behind(in.s.Tags, "", "zz")
	in.text, _ = node.Text(in.l)
	if r.odd(wild) {
		in.d.Users = behind(words("bob ann"), "A")
	}
	if r.odd(wild) {
		in.node, in.user, in.tag, in.public = notKeys[r.Intn(len(notKeys))], "dan", "none", notPublics[r.Intn(len(notPublics))]
	}
	if r.odd(wild) {
		in.at, in.within, in.w.From = wrongMoments[r.Intn(len(wrongMoments))], -1, 1_000
	}
	if r.odd(wild) {
		r.wrongStep(&in.s)
	}
	if r.odd(wild) {
		in.m = []api.Step{by("a", 1, "345686399 gone ann n1")}
	}
	if b := []byte(in.text); len(b) > 0 && r.odd(wild) {
		b[r.Intn(len(b))] = byte(r.Intn(256))
		in.text = string(b)
	}
	return in
}

// inputs are random inputs, right and wrong.
func inputs(n int) []input {
	r := chance{rand.New(rand.NewSource(10))}
	return repeat(n, func(i int) input { return r.input(i%2 == 0) })
}

// shown is a value with what lies behind the lengths of its lists.
func shown(v reflect.Value) string {
	var out []string
	switch v.Kind() {
	case reflect.Slice:
		out = append(out, fmt.Sprint(v.Len()))
		v = v.Slice(0, v.Cap())
		for i := range v.Len() {
			out = append(out, shown(v.Index(i)))
		}
	case reflect.Struct:
		for i := range v.NumField() {
			out = append(out, shown(v.Field(i)))
		}
	default:
		return fmt.Sprint(v)
	}
	return "{" + strings.Join(out, " ") + "}"
}

// alone says whether results beside an error are zero; the number of a line need not be.
func alone(name string, results []any) bool {
	for i, x := range results {
		v := reflect.ValueOf(x)
		if v.IsZero() || v.Kind() == reflect.Slice && v.Len() == 0 || name == "Read" && i == 1 {
			continue
		}
		return false
	}
	return true
}

// Z1, Z3: every call returns, without a panic; with an error all else is zero. The inputs lead to both, for each function.
func TestErrorsComeAlone(t *testing.T) {
	count := map[string][2]int{}
	for _, in := range inputs(2_000) {
		for _, c := range calls {
			results := c.f(in)
			n := count[c.name]
			if errnoOf(results) == api.OK {
				n[0]++
			} else {
				n[1]++
				if !alone(c.name, results[:len(results)-1]) {
					t.Errorf("%s: %+v with an error: %+v", c.name, in, results)
				}
			}
			count[c.name] = n
		}
	}
	for _, c := range calls {
		if n := count[c.name]; n[0] < 20 || n[1] < 20 {
			t.Errorf("%s: %d right ones, %d errors", c.name, n[0], n[1])
		}
	}
}

// Z3: with false all else is zero.
func TestFalseComesAlone(t *testing.T) {
	d, l := office(1, false), base()
	is(t, "StateOf", all(node.StateOf(d, l, "n6", 500)), all(api.Machine{}, false, api.OK))
	is(t, "NodeOf", all(node.NodeOf(d, l, "0f", 500)), all("", false, api.OK))
	is(t, "NextChange", all(node.NextChange(d, l, 500)), all(0, false, api.OK))
}

// Z1: long arguments are no matter.
func TestLongArguments(t *testing.T) {
	const n = 200_000
	long := strings.Repeat("0", n)
	in := input{d: office(1, false), l: make([]api.Step, n), m: make([]api.Step, n), text: strings.Repeat("5 s1 1 gone ann n1\n", n/19), node: long, user: long, tag: long, public: long, places: make([]api.Place, n)}
	for _, c := range calls {
		if e := errnoOf(c.f(in)); (c.log || c.name == "Read") && e != api.ErrLarge {
			t.Errorf("%s: %v", c.name, e)
		}
	}
	in.d, in.l, in.m = api.Directory{Users: make([]string, n), Owners: make([]api.Owner, n)}, nil, nil
	for _, c := range calls {
		if e := errnoOf(c.f(in)); c.directory && e != api.ErrLarge {
			t.Errorf("%s: %v", c.name, e)
		}
	}
	in.d = office(1, false)
	in.l = []api.Step{{Server: "s", No: 1, Kind: api.StepTag, By: "ann", Node: "n1", Tags: make([]string, n)}}
	is(t, "Check", node.Check(in.l), api.ErrLarge)
	for _, s := range []string{long, strings.Repeat("5", n), strings.Repeat(" ", n), strings.Repeat("\n", n), strings.Repeat("5 s1 1 key ann k "+strings.Repeat("a,", 1_000)+"a 5 5 no\n", 98)} {
		_, _, e := node.Read(s)
		is(t, "Read", e == api.OK, false)
	}
}

// scribble overwrites all lists of a value.
func scribble(v reflect.Value) {
	switch v.Kind() {
	case reflect.Slice:
		v = v.Slice(0, v.Cap())
		for i := range v.Len() {
			scribble(v.Index(i))
			v.Index(i).SetZero()
		}
	case reflect.Struct:
		for i := range v.NumField() {
			scribble(v.Field(i))
		}
	}
}

// Z2, Z7: arguments are not modified, also behind their lengths; results share no memory with them, and come again.
func TestArgumentsStay(t *testing.T) {
	for _, in := range inputs(100) {
		before := shown(reflect.ValueOf(in))
		for _, c := range calls {
			first := c.f(in)
			text := fmt.Sprintf("%+v", first)
			again := c.f(in)
			for _, x := range first {
				scribble(reflect.ValueOf(x))
			}
			if after := shown(reflect.ValueOf(in)); after != before {
				t.Fatalf("%s: %s became %s", c.name, before, after)
			}
			if s := fmt.Sprintf("%+v", again); s != text {
				t.Fatalf("%s: %s, then %s", c.name, text, s)
			}
			if s := fmt.Sprintf("%+v", c.f(in)); s != text {
				t.Fatalf("%s: %s, then %s", c.name, text, s)
			}
		}
	}
}

// Z2: no two lists of one result share memory: changing one changes no other one.
func TestResultsAreApart(t *testing.T) {
	d := office(100, false)
	l := log("5 key ann k ops,web 50 9 yes", "6 join - n1 k 0a x", "7 join - n2 k 0b y")
	machines, _ := node.Machines(d, l, 9)
	machines[0].Tags[0] = "zz"
	is(t, "Machines", machines[1].Tags, words("ops web"))
	nodes, _ := node.Nodes(d, l, nil, 9)
	nodes[0].Tags[0] = "zz"
	is(t, "Nodes", nodes[1].Tags, words("ops web"))
	is(t, "the log", l[0].Tags, words("ops web"))
}

// clipped is a value whose lists have nothing behind their lengths.
func clipped(v reflect.Value) reflect.Value {
	out := reflect.New(v.Type()).Elem()
	switch v.Kind() {
	case reflect.Slice:
		if v.Len() > 0 {
			out.Set(reflect.MakeSlice(v.Type(), v.Len(), v.Len()))
		}
		for i := range v.Len() {
			out.Index(i).Set(clipped(v.Index(i)))
		}
	case reflect.Struct:
		for i := range v.NumField() {
			out.Field(i).Set(clipped(v.Field(i)))
		}
	default:
		out.Set(v)
	}
	return out
}

// Z2: what is behind the length of a list is not looked at.
func TestMemoryBehindLists(t *testing.T) {
	for _, in := range inputs(500) {
		bare := in
		bare.d = clipped(reflect.ValueOf(in.d)).Interface().(api.Directory)
		bare.l = clipped(reflect.ValueOf(in.l)).Interface().([]api.Step)
		bare.m = clipped(reflect.ValueOf(in.m)).Interface().([]api.Step)
		bare.s = clipped(reflect.ValueOf(in.s)).Interface().(api.Step)
		bare.places = clipped(reflect.ValueOf(in.places)).Interface().([]api.Place)
		for _, c := range calls {
			is(t, c.name, c.f(in), c.f(bare))
		}
	}
}

// Z1: functions can be called by several goroutines at once.
func TestAtOnce(t *testing.T) {
	list := inputs(60)
	results := func() []string {
		var out []string
		for _, in := range list {
			for _, c := range calls {
				out = append(out, fmt.Sprintf("%+v", c.f(in)))
			}
		}
		return out
	}
	want := results()
	var wait sync.WaitGroup
	for range 8 {
		wait.Go(func() {
			if !slices.Equal(results(), want) {
				t.Error("results differ")
			}
		})
	}
	wait.Wait()
}

// Z5, Z8: empty lists are as nil, also where a step has no tags.
func TestEmptyLists(t *testing.T) {
	empty := []string{}
	for _, line := range right {
		s := step(line)
		if len(s.Tags) == 0 {
			s.Tags = empty
			is(t, line, node.Check([]api.Step{s}), api.OK)
		}
	}
	s, x := step("5 join ann n1 - 0a x"), step("5 join ann n1 - 0a x")
	s.Tags = empty
	is(t, "Merge", all(node.Merge([]api.Step{s}, []api.Step{x})), all([]api.Step{x}, api.OK))
	in := input{d: api.Directory{Life: 1}, node: "n1", user: "ann", public: "0a"}
	void := in
	void.d.Users, void.d.Owners, void.l, void.m, void.places = empty, []api.Owner{}, []api.Step{}, []api.Step{}, []api.Place{}
	for _, c := range calls {
		is(t, c.name, c.f(void), c.f(in))
	}
	d := office(1, false)
	d.Owners[1].Users = empty
	is(t, "Owns", all(node.Owns(d, "ann", "old")), all(false, api.OK))
}

// Z10: what is written is read to an equal value, and nothing else is read.
func TestWritersAndReaders(t *testing.T) {
	r := chance{rand.New(rand.NewSource(11))}
	signs := []byte("0123456789abknrswyz,- \n-_A")
	read, other := 0, 0
	for range 5_000 {
		l := r.log()
		l = l[:min(len(l), 3)]
		s, e := node.Text(l)
		is(t, "Text", e, api.OK)
		is(t, "Read", all(node.Read(s)), all(l, 0, api.OK))
		b := []byte(s)
		for len(b) > 0 && r.Intn(3) > 0 {
			b[r.Intn(len(b))] = signs[r.Intn(len(signs))]
		}
		if x, _, e := node.Read(string(b)); e == api.OK {
			is(t, "Text", all(node.Text(x)), all(string(b), api.OK))
			read++
		} else {
			other++
		}
	}
	if read < 1_000 || other < 1_000 {
		t.Errorf("%d are read, %d are not", read, other)
	}
}
