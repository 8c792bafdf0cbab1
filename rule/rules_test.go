package rule_test

import (
	"fmt"
	"math"
	"math/rand"
	"reflect"
	"slices"
	"strings"
	"sync"
	"testing"

	"holloway/api"
	"holloway/rule"
)

// input has an argument of each type, of some two.
type input struct {
	s, t        api.Scene
	p           api.Policy
	nodes       []api.Node
	facts       []api.Fact
	group, node string
	w           api.What
	a           api.Addr
	f           api.Flow
	text        string
}

// call is one of the functions of package rule, with all its results, and which arguments it has.
type call struct {
	name                string
	scene, policy, flow bool
	f                   func(in input) []any
}

var calls = []call{
	{"CheckNodes", false, false, false, func(in input) []any { return all(rule.CheckNodes(in.nodes)) }},
	{"CheckFacts", false, false, false, func(in input) []any { return all(rule.CheckFacts(in.nodes, in.facts)) }},
	{"CheckPolicy", false, true, false, func(in input) []any { return all(rule.CheckPolicy(in.p)) }},
	{"Check", true, false, false, func(in input) []any { return all(rule.Check(in.s)) }},
	{"Users", false, true, false, func(in input) []any { return all(rule.Users(in.p, in.group)) }},
	{"Addresses", true, false, false, func(in input) []any { return all(rule.Addresses(in.s, in.w)) }},
	{"Owner", true, false, false, func(in input) []any { return all(rule.Owner(in.s, in.a)) }},
	{"Permits", true, false, true, func(in input) []any { return all(rule.Permits(in.s, in.f)) }},
	{"Why", true, false, true, func(in input) []any { return all(rule.Why(in.s, in.f)) }},
	{"Sources", true, false, true, func(in input) []any { return all(rule.Sources(in.s, in.f)) }},
	{"Targets", true, false, true, func(in input) []any { return all(rule.Targets(in.s, in.f)) }},
	{"Open", true, false, true, func(in input) []any { return all(rule.Open(in.s, in.f)) }},
	{"Peers", true, false, false, func(in input) []any { return all(rule.Peers(in.s, in.node)) }},
	{"Failures", true, false, false, func(in input) []any { return all(rule.Failures(in.s)) }},
	{"Faults", true, false, false, func(in input) []any { return all(rule.Faults(in.s)) }},
	{"Differ", true, false, false, func(in input) []any { return all(rule.Differ(in.s, in.t)) }},
	{"Idle", true, false, false, func(in input) []any { return all(rule.Idle(in.s)) }},
	{"Text", false, true, false, func(in input) []any { return all(rule.Text(in.p)) }},
	{"Read", false, false, false, func(in input) []any { return all(rule.Read(in.text)) }},
}

func errnoOf(results []any) api.Errno { return results[len(results)-1].(api.Errno) }

// odd says sometimes that something shall be wrong.
func (r chance) odd(wild bool) bool { return wild && r.Intn(6) == 0 }

// behind is a list with memory behind its length.
func behind[T any](l []T, more ...T) []T { return append(slices.Clip(l), more...)[:len(l)] }

// roomy is a policy whose lists have memory behind their lengths.
func roomy(p api.Policy) api.Policy {
	for i := range p.Groups {
		p.Groups[i].Members = behind(p.Groups[i].Members, "", "@zed")
	}
	for i := range p.Grants {
		g := &p.Grants[i]
		g.Src, g.Dst, g.Postures = behind(g.Src, api.What{}), behind(g.Dst, api.Target{}), behind(g.Postures, "", "a")
	}
	p.Groups, p.Hosts = behind(p.Groups, api.Group{}), behind(p.Hosts, api.Host{Name: "z"})
	p.Grants, p.Tests = behind(p.Grants, api.Grant{}), behind(p.Tests, api.Test{})
	return p
}

// roomyNodes are nodes whose lists have memory behind their lengths.
func roomyNodes(l []api.Node) []api.Node {
	for i := range l {
		n := &l[i]
		n.Tags, n.Addrs, n.Routes = behind(n.Tags, "", "zz"), behind(n.Addrs, api.Addr{Hi: 1}), behind(n.Routes, api.Prefix{Bits: 33})
	}
	return behind(l, api.Node{})
}

// wrongNode makes one of some nodes wrong.
func (r chance) wrongNode(l []api.Node) {
	if len(l) == 0 {
		return
	}
	n := &l[r.Intn(len(l))]
	switch r.Intn(5) {
	case 0:
		n.Key = pick(r, notKeys)
	case 1:
		n.Name = pick(r, notKeys)
	case 2:
		n.User = pick(r, notKeys)
	case 3:
		n.Tags = append(n.Tags, "a", pick(r, notKeys))
	case 4:
		n.Addrs = append(n.Addrs, api.Addr{Hi: 1})
	}
}

// wrongPolicy makes a part of a policy wrong.
func (r chance) wrongPolicy(p *api.Policy) {
	switch r.Intn(5) {
	case 0:
		p.Groups[r.Intn(3)].Name = pick(r, notKeys)
	case 1:
		p.Groups[2].Members = append(p.Groups[2].Members, pick(r, words("@a @zed A")))
	case 2:
		p.Hosts[r.Intn(2)].Net.Bits = pick(r, []int{-1, 33, 129, math.MinInt, math.MaxInt})
	case 3:
		p.Grants = append(p.Grants, api.Grant{Src: []api.What{{Kind: r.Intn(12)}}, Dst: []api.Target{{Ports: api.Ports{From: r.Intn(2)}}}})
	case 4:
		p.Tests = append(p.Tests, api.Test{Flow: api.Flow{Proto: pick(r, []int{1, 6, math.MinInt, math.MaxInt}), ToPort: math.MaxInt}})
	}
}

// input is a random input: with wild it is often wrong.
func (r chance) input(wild bool) input {
	in := input{s: r.scene(), p: roomy(r.policy()), nodes: roomyNodes(r.nodes()), group: pick(r, words("a b c")), w: r.what(), a: pick(r, eachAddr), f: r.flow()}
	in.t = r.like(in.s)
	in.s.Policy, in.s.Nodes, in.s.Facts = roomy(in.s.Policy), roomyNodes(in.s.Nodes), behind(in.s.Facts, api.Fact{})
	in.facts = behind(r.facts(in.nodes), api.Fact{})
	in.node = "n1"
	if len(in.s.Nodes) > 0 {
		in.node = pick(r, in.s.Nodes).Key
	}
	in.text, _ = rule.Text(in.p)
	if r.odd(wild) {
		r.wrongPolicy(&in.p)
		r.wrongPolicy(&in.s.Policy)
	}
	if r.odd(wild) {
		r.wrongNode(in.nodes)
		r.wrongNode(in.s.Nodes)
	}
	if r.odd(wild) {
		in.facts = append(in.facts, api.Fact{Node: "n1", Posture: "a"})
		in.s.Facts = append(in.s.Facts, api.Fact{Node: "n1", Posture: "a"})
	}
	if r.odd(wild) {
		in.group, in.node, in.a = pick(r, notKeys), pick(r, notKeys), api.Addr{Lo: 1 << 32}
	}
	if r.odd(wild) {
		in.w = pick(r, []api.What{{}, {Kind: math.MinInt}, {Kind: math.MaxInt}, what(api.WhatGroup, "zed"), what(api.WhatTag, "A"), {Kind: api.WhatNet, Net: api.Prefix{Bits: -1}}})
		in.f = pick(r, []api.Flow{{}, {Proto: math.MaxInt}, {Proto: 6, ToPort: math.MinInt}, {Proto: 6, FromPort: math.MaxInt}, {Proto: 6, From: api.Addr{Six: true}}, {Proto: 6, To: api.Addr{Hi: 1}}, {Proto: 1, ToPort: 1}})
	}
	if b := []byte(in.text); len(b) > 0 && r.odd(wild) {
		b[r.Intn(len(b))] = byte(r.Intn(256))
		in.text = string(b)
	}
	return in
}

// inputs are random inputs, right and wrong.
func inputs(n int) []input {
	r := chance{rand.New(rand.NewSource(7))}
	return repeat(n, func(i int) input { return r.input(i%2 == 0) })
}

// alone says whether results beside an error are zero; the number of a line need not be.
func alone(name string, results []any) bool {
	for i, x := range results {
		v := reflect.ValueOf(x)
		if v.IsZero() || v.Kind() == reflect.Slice && v.Len() == 0 || name == "Read" && i == 1 {
			continue
		}
		return false
	}
	return true
}

// Z1, Z3: every call returns, without a panic; with an error all else is zero. The inputs lead to both, for each function.
func TestErrorsComeAlone(t *testing.T) {
	count := map[string][2]int{}
	for _, in := range inputs(2_000) {
		for _, c := range calls {
			results := c.f(in)
			n := count[c.name]
			if errnoOf(results) == api.OK {
				n[0]++
			} else {
				n[1]++
				if !alone(c.name, results[:len(results)-1]) {
					t.Errorf("%s: %+v with an error: %+v", c.name, in, results)
				}
			}
			count[c.name] = n
		}
	}
	for _, c := range calls {
		if n := count[c.name]; n[0] < 20 || n[1] < 20 {
			t.Errorf("%s: %d right ones, %d errors", c.name, n[0], n[1])
		}
	}
}

// P3.2, Z4: functions with scenes return Check's error first, those with policies CheckPolicy's.
func TestScenesFirst(t *testing.T) {
	bad := input{a: api.Addr{Hi: 1}, node: "A", group: "A"}
	expect := func(name string, s api.Scene, e api.Errno) {
		in := bad
		in.s, in.t, in.p = s, s, s.Policy
		for _, c := range calls {
			if c.scene || c.policy && rule.CheckPolicy(s.Policy) != api.OK {
				is(t, c.name+": "+name, errnoOf(c.f(in)), e)
			}
		}
		in.s = scene(people, "", "")
		is(t, "Differ: "+name, all(rule.Differ(in.s, s)), all(api.Flow{}, false, e))
	}
	for _, b := range policyBreaks {
		s := api.Scene{Nodes: []api.Node{{}}, Policy: base(), Facts: []api.Fact{{}}}
		b.do(&s.Policy)
		expect(b.name, s, b.e)
	}
	for _, b := range nodeBreaks {
		s := api.Scene{Nodes: nodes("a ann 100.64.0.1; b bob 100.64.0.2; c ann 100.64.0.3"), Policy: base(), Facts: []api.Fact{{}}}
		b.do(&s.Nodes[2])
		expect(b.name, s, b.e)
	}
	expect("facts", api.Scene{Facts: []api.Fact{{}}}, api.ErrNone)
}

// Z1: long arguments are no matter.
func TestLongArguments(t *testing.T) {
	const n = 200_000
	long := strings.Repeat("a", n)
	in := input{nodes: make([]api.Node, n), group: long, node: long, w: what(api.WhatUser, long), a: api.Addr{Hi: 1}, text: strings.Repeat("group a\n", n/8)}
	wrong := []api.Scene{
		{Nodes: make([]api.Node, n)}, {Facts: make([]api.Fact, n)},
		{Policy: api.Policy{Groups: make([]api.Group, n)}}, {Policy: api.Policy{Hosts: make([]api.Host, n)}}, {Policy: api.Policy{Grants: make([]api.Grant, n)}}, {Policy: api.Policy{Tests: make([]api.Test, n)}},
		{Policy: api.Policy{Groups: []api.Group{{Name: "a", Members: make([]string, n)}}}},
		{Policy: api.Policy{Grants: []api.Grant{{Src: make([]api.What, n), Dst: make([]api.Target, n)}}}},
		{Nodes: []api.Node{{Key: "a", Name: "a", Tags: make([]string, n)}}}, {Nodes: []api.Node{{Key: "a", Name: "a", User: "a", Addrs: make([]api.Addr, n)}}}, {Nodes: []api.Node{{Key: "a", Name: "a", User: "a", Routes: make([]api.Prefix, n)}}},
	}
	for _, s := range wrong {
		in.s, in.t, in.p, in.facts = s, s, s.Policy, s.Facts
		for _, c := range calls {
			if e := errnoOf(c.f(in)); c.scene && e != api.ErrLarge || e == api.OK && !c.policy {
				t.Errorf("%s: %v", c.name, e)
			}
		}
	}
	in.s, in.t, in.p = api.Scene{}, api.Scene{}, api.Policy{}
	for _, c := range calls {
		c.f(in)
	}
	for _, s := range []string{long, strings.Repeat(" ", n), strings.Repeat("\n", n), "group " + strings.Repeat("a ", n/2-10) + "a\n", "allow " + strings.Repeat("*,", n/2-10) + "* -> *\n", "allow * -> * if " + strings.Repeat("a,", n/2-20) + "a\n", "allow * -> *" + strings.Repeat(";", n-20) + "\n"} {
		_, _, e := rule.Read(s)
		is(t, "Read", e == api.OK, false)
	}
}

// shown is a value with what lies behind the lengths of its lists.
func shown(v reflect.Value) string {
	var out []string
	switch v.Kind() {
	case reflect.Slice:
		out = append(out, fmt.Sprint(v.Len()))
		v = v.Slice(0, v.Cap())
		for i := range v.Len() {
			out = append(out, shown(v.Index(i)))
		}
	case reflect.Struct:
		for i := range v.NumField() {
			out = append(out, shown(v.Field(i)))
		}
	default:
		return fmt.Sprint(v)
	}
	return "{" + strings.Join(out, " ") + "}"
}

// scribble overwrites all lists of a value.
func scribble(v reflect.Value) {
	switch v.Kind() {
	case reflect.Slice:
		v = v.Slice(0, v.Cap())
		for i := range v.Len() {
			scribble(v.Index(i))
			v.Index(i).SetZero()
		}
	case reflect.Struct:
		for i := range v.NumField() {
			scribble(v.Field(i))
		}
	}
}

// Z2, Z7: arguments are not modified, also behind their lengths; results share no memory with them, and come again.
func TestArgumentsStay(t *testing.T) {
	for _, in := range inputs(100) {
		before := shown(reflect.ValueOf(in))
		for _, c := range calls {
			first := c.f(in)
			text := fmt.Sprintf("%+v", first)
			again := c.f(in)
			for _, x := range first {
				scribble(reflect.ValueOf(x))
			}
			if after := shown(reflect.ValueOf(in)); after != before {
				t.Fatalf("%s: %s became %s", c.name, before, after)
			}
			for _, results := range [][]any{again, c.f(in)} {
				if s := fmt.Sprintf("%+v", results); s != text {
					t.Fatalf("%s: %s, then %s", c.name, text, s)
				}
			}
		}
	}
}

// Z2: no two lists of one result share memory: changing or lengthening one changes no other one.
func TestResultsAreApart(t *testing.T) {
	p, _, _ := rule.Read(example)
	for i := range p.Groups {
		p.Groups[i].Members = append(p.Groups[i].Members, "zed")
	}
	for i := range p.Grants {
		g := &p.Grants[i]
		g.Src, g.Dst, g.Postures = append(g.Src, g.Src[0]), append(g.Dst, g.Dst[0]), append(g.Postures, "zed")
	}
	want := examplePolicy()
	for i, g := range want.Groups {
		is(t, "Members", p.Groups[i].Members, append(g.Members, "zed"))
	}
	for i, g := range want.Grants {
		is(t, "Src", p.Grants[i].Src, append(g.Src, g.Src[0]))
		is(t, "Dst", p.Grants[i].Dst, append(g.Dst, g.Dst[0]))
		is(t, "Postures", p.Grants[i].Postures, append(g.Postures, "zed"))
	}
}

// clipped is a value whose lists have nothing behind their lengths.
func clipped[T any](x T) T { return clippedValue(reflect.ValueOf(x)).Interface().(T) }

func clippedValue(v reflect.Value) reflect.Value {
	out := reflect.New(v.Type()).Elem()
	switch v.Kind() {
	case reflect.Slice:
		if v.Len() > 0 {
			out.Set(reflect.MakeSlice(v.Type(), v.Len(), v.Len()))
		}
		for i := range v.Len() {
			out.Index(i).Set(clippedValue(v.Index(i)))
		}
	case reflect.Struct:
		for i := range v.NumField() {
			out.Field(i).Set(clippedValue(v.Field(i)))
		}
	default:
		out.Set(v)
	}
	return out
}

// Z2, Z5: what is behind the length of a list is not looked at, and empty lists are as nil.
func TestMemoryBehindLists(t *testing.T) {
	for _, in := range inputs(500) {
		bare := in
		bare.s, bare.t, bare.p, bare.nodes, bare.facts = clipped(in.s), clipped(in.t), clipped(in.p), clipped(in.nodes), clipped(in.facts)
		for _, c := range calls {
			is(t, c.name, c.f(in), c.f(bare))
		}
	}
}

// Z1: functions can be called by several goroutines at once.
func TestAtOnce(t *testing.T) {
	list := inputs(60)
	results := func() []string {
		var out []string
		for _, in := range list {
			for _, c := range calls {
				out = append(out, fmt.Sprintf("%+v", c.f(in)))
			}
		}
		return out
	}
	want := results()
	var wait sync.WaitGroup
	for range 8 {
		wait.Go(func() {
			if !slices.Equal(results(), want) {
				t.Error("results differ")
			}
		})
	}
	wait.Wait()
}
