package posture_test

import (
	"fmt"
	"math"
	"reflect"
	"slices"
	"strings"
	"sync"
	"testing"

	"holloway/api"
	"holloway/posture"
)

// input has an argument of each type.
type input struct {
	claims, more []api.Claim
	fresh        int
	node, name   string
	nodes        []string
	at           int
	w            api.Window
	a, b         api.Attr
	cond         api.Cond
	text         string
	postures     []api.Posture
	access       []api.Access
	askings      []api.Asking
	facts, other []api.Fact
}

// call is one of the functions of package posture, with all its results.
type call struct {
	name string
	f    func(in input) []any
}

var calls = []call{
	{"CheckClaims", func(in input) []any { return all(posture.CheckClaims(in.claims)) }},
	{"Merge", func(in input) []any { return all(posture.Merge(in.claims, in.more)) }},
	{"ValueAt", func(in input) []any { return all(posture.ValueAt(in.claims, in.fresh, in.node, in.name, in.at)) }},
	{"Order", func(in input) []any { return all(posture.Order(in.a, in.b)) }},
	{"CheckCond", func(in input) []any { return all(posture.CheckCond(in.cond)) }},
	{"Print", func(in input) []any { return all(posture.Print(in.cond)) }},
	{"Parse", func(in input) []any { return all(posture.Parse(in.text)) }},
	{"Names", func(in input) []any { return all(posture.Names(in.cond)) }},
	{"Judge", func(in input) []any { return all(posture.Judge(in.cond, in.claims, in.fresh, in.node, in.at)) }},
	{"Proof", func(in input) []any { return all(posture.Proof(in.cond, in.claims, in.fresh, in.node, in.at)) }},
	{"HeldTime", func(in input) []any { return all(posture.HeldTime(in.cond, in.claims, in.fresh, in.node, in.w)) }},
	{"CheckPostures", func(in input) []any { return all(posture.CheckPostures(in.postures)) }},
	{"Facts", func(in input) []any { return all(posture.Facts(in.postures, in.claims, in.fresh, in.nodes, in.at)) }},
	{"NextChange", func(in input) []any {
		return all(posture.NextChange(in.postures, in.claims, in.fresh, in.nodes, in.at))
	}},
	{"CheckAccess", func(in input) []any { return all(posture.CheckAccess(in.access)) }},
	{"CheckAskings", func(in input) []any { return all(posture.CheckAskings(in.askings)) }},
	{"Refused", func(in input) []any { return all(posture.Refused(in.access, in.askings)) }},
	{"Requests", func(in input) []any { return all(posture.Requests(in.access, in.askings, in.at)) }},
	{"Given", func(in input) []any { return all(posture.Given(in.access, in.askings, in.at)) }},
	{"NextEnd", func(in input) []any { return all(posture.NextEnd(in.access, in.askings, in.at)) }},
	{"Both", func(in input) []any { return all(posture.Both(in.facts, in.other)) }},
	{"Text", func(in input) []any { return all(posture.Text(in.claims)) }},
	{"Read", func(in input) []any { return all(posture.Read(in.text)) }},
}

// callOf is the call of a function.
func callOf(name string) func(in input) []any {
	i := slices.IndexFunc(calls, func(c call) bool { return c.name == name })
	return calls[i].f
}

func errnoOf(results []any) api.Errno { return results[len(results)-1].(api.Errno) }

// wrongInput is wrong throughout, in such a way that errors that can follow each other differ.
func wrongInput() input {
	return input{
		claims: claims("2 n a yes; 1 n a yes"), node: "A", name: "A", nodes: make([]string, api.MaxNodes+1), at: -1, w: window(2, 1), cond: api.Cond{Kind: 9},
		postures: make([]api.Posture, api.MaxPostures+1), access: accesses("a 2 5 5 ann"), askings: []api.Asking{{Key: "a", By: "a"}},
	}
}

// behind is a list with memory behind its length.
func behind[T any](l []T, more ...T) []T { return append(slices.Clip(l), more...)[:len(l)] }

// condBehind is a condition whose lists have memory behind their lengths.
func condBehind(c api.Cond) api.Cond {
	var kids []api.Cond
	for _, kid := range c.Kids {
		kids = append(kids, condBehind(kid))
	}
	c.Kids = behind(kids, api.Cond{}, comparison("z == 5"))
	return c
}

// odd says sometimes that something shall be wrong.
func (r chance) odd() bool { return r.Intn(6) == 0 }

// spoil makes one of a list wrong, sometimes.
func spoil[T any](r chance, l []T, wrong ...T) {
	if len(l) > 0 && r.odd() {
		l[r.Intn(len(l))] = pick(r, wrong)
	}
}

// input is a random input: with wild it is often wrong.
func (r chance) input(wild bool) input {
	in := input{fresh: 1 + r.Intn(20), node: pick(r, someNodes), name: pick(r, someNames), at: r.Intn(until), a: r.attr(), b: r.attr(), cond: condBehind(r.cond(4))}
	l := r.claims()
	in.claims, in.more = behind(some(r, l), api.Claim{}, api.Claim{At: -1}), behind(some(r, l), api.Claim{At: until})
	in.nodes = behind(some(r, someNodes), "z", "A")
	in.w = window(r.Intn(until), until+r.Intn(until))
	in.postures = r.postures()
	for i := range in.postures {
		in.postures[i].Cond = condBehind(in.postures[i].Cond)
	}
	in.postures = behind(in.postures, api.Posture{}, api.Posture{Key: "z"})
	in.access = r.accesses()
	for i := range in.access {
		in.access[i].Approvers = behind(in.access[i].Approvers, "z", "A")
	}
	in.access = behind(in.access, api.Access{}, api.Access{Posture: "z"})
	in.askings = behind(r.askings(), api.Asking{}, api.Asking{At: -1})
	in.facts, in.other = behind(r.facts(), api.Fact{}), behind(r.facts(), api.Fact{Node: "z"})
	in.text, _ = posture.Text(in.claims)
	if r.Intn(2) == 0 {
		in.text, _ = posture.Print(in.cond)
	}
	if wild {
		r.spoil(&in)
	}
	return in
}

// spoil makes parts of an input wrong.
func (r chance) spoil(in *input) {
	for _, n := range []*int{&in.at, &in.fresh, &in.w.From, &in.w.To, &in.a.Number, &in.b.Kind, &in.cond.Kind} {
		if r.odd() {
			*n = pick(r, []int{math.MinInt, -1, api.End + 1, math.MaxInt})
		}
	}
	for _, s := range []*string{&in.node, &in.name, &in.cond.Name, &in.cond.Op, &in.a.Words} {
		if r.odd() {
			*s = pick(r, []string{"A", "a.", tooLong, "\xff"})
		}
	}
	wrong := []api.Cond{{}, {Kind: math.MaxInt}, not(api.Cond{}), and(), {Kind: api.CondIs}, {Kind: api.CondIs, Name: "a", Op: "=="}}
	spoil(r, in.cond.Kids, wrong...)
	spoil(r, in.claims, api.Claim{}, api.Claim{At: math.MinInt}, api.Claim{At: math.MaxInt, Node: "a", Name: "a", Value: attr("5")})
	spoil(r, in.more, api.Claim{}, api.Claim{Node: "na", Name: "a", Value: attr("5")})
	spoil(r, in.nodes, "", "A", tooLong)
	spoil(r, in.postures, api.Posture{}, api.Posture{Key: "a", Cond: pick(r, wrong)})
	spoil(r, in.access, api.Access{}, api.Access{Posture: "a", Approvers: []string{""}}, api.Access{Posture: "pa", Approvers: words("a"), Need: math.MaxInt})
	spoil(r, in.askings, api.Asking{}, api.Asking{Key: "a", By: "b", Kind: math.MinInt}, api.Asking{Key: "a", By: "b", Kind: 1, Node: "a", Posture: "b", Long: math.MaxInt})
	spoil(r, in.facts, api.Fact{}, api.Fact{Node: "a"})
	spoil(r, in.other, api.Fact{}, api.Fact{Posture: "a"})
	if text := []byte(in.text); len(text) > 0 && r.Intn(3) > 0 {
		text[r.Intn(len(text))] = byte(r.Intn(256))
		in.text = string(text)
	}
}

// inputs are random inputs, right and wrong.
func inputs(n int) []input {
	r := newChance(13)
	return repeat(n, func(i int) input { return r.input(i%2 == 0) })
}

// isVoid says whether a value is zero, or a list that is empty, or has nothing but such values.
func isVoid(v reflect.Value) bool {
	switch v.Kind() {
	case reflect.Slice:
		return v.Len() == 0
	case reflect.Struct:
		for i := range v.NumField() {
			if !isVoid(v.Field(i)) {
				return false
			}
		}
		return true
	}
	return v.IsZero()
}

// alone says whether results beside an error are zero; of ErrSyntax the number of a line, or of a byte, need not be.
func alone(results []any) bool {
	for i, x := range results[:len(results)-1] {
		if !isVoid(reflect.ValueOf(x)) && (i != 1 || errnoOf(results) != api.ErrSyntax) {
			return false
		}
	}
	return true
}

// Z1, Z3: every call returns, without a panic; with an error all else is zero, and so it is with false. The inputs lead to both, for each function.
func TestErrorsComeAlone(t *testing.T) {
	count := map[string][2]int{}
	for _, in := range inputs(2_000) {
		for _, c := range calls {
			results := c.f(in)
			n := count[c.name]
			n[min(int(errnoOf(results)), 1)]++
			count[c.name] = n
			no := len(results) == 3 && results[1] == any(false)
			if (errnoOf(results) != api.OK || no) && !alone(results) {
				t.Errorf("%s: %+v with an error: %+v", c.name, in, results)
			}
		}
	}
	for _, c := range calls {
		if n := count[c.name]; n[0] < 50 || n[1] < 50 {
			t.Errorf("%s: %d right ones, %d errors", c.name, n[0], n[1])
		}
	}
}

// Z1: long arguments are no matter.
func TestLongArguments(t *testing.T) {
	const n = 200_000
	s := strings.Repeat("a", n)
	in := input{claims: make([]api.Claim, n), more: make([]api.Claim, n), node: s, name: s, nodes: make([]string, n), text: s, a: api.Attr{Kind: api.AttrWords, Words: s}, cond: api.Cond{Kids: make([]api.Cond, n)}}
	in.postures, in.access, in.askings, in.facts = make([]api.Posture, n), make([]api.Access, n), make([]api.Asking, n), make([]api.Fact, n)
	for _, c := range calls {
		if e := errnoOf(c.f(in)); e == api.OK {
			t.Errorf("%s: %v", c.name, e)
		}
	}
	is(t, "nodes", all(posture.Facts(nil, nil, 1, make([]string, n), 0)), all([]api.Fact{}, api.ErrLarge))
	is(t, "approvers", posture.CheckAccess([]api.Access{{Posture: "a", Approvers: make([]string, n)}}), api.ErrLarge)
	is(t, "a name", posture.CheckCond(api.Cond{Kind: api.CondIs, Name: s}), api.ErrName)
	is(t, "words", posture.CheckClaims([]api.Claim{{Node: "n", Name: "a", Value: in.a}}), api.ErrForm)
	is(t, "comparisons", posture.CheckCond(api.Cond{Kind: api.CondOr, Kids: repeat(n, func(int) api.Cond { return comparison("a == 5") })}), api.ErrLarge)
	is(t, "parts", posture.CheckCond(or(comparison("a == 5"), api.Cond{Kind: api.CondNot, Kids: make([]api.Cond, n)})), api.ErrForm)
	deep := comparison("a == 5")
	for range n {
		deep = not(deep)
	}
	is(t, "deep", posture.CheckCond(deep), api.ErrLarge)
	for _, s := range []string{strings.Repeat("\n", n), strings.Repeat("5 n a true\n", n/11), `5 n a "` + strings.Repeat("x", n-9) + "\"\n", `5 n a "` + strings.Repeat(`\`, n-8) + "\n", "5 n a v" + strings.Repeat("1.", n/2-4) + "\n", "5 n a " + strings.Repeat("1", n-7) + "\n"} {
		_, _, e := posture.Read(s)
		is(t, "Read", e == api.OK, false)
	}
}

// shown is a value with what lies behind the lengths of its lists.
func shown(v reflect.Value) string {
	var out []string
	switch v.Kind() {
	case reflect.Slice:
		out = append(out, fmt.Sprint(v.Len()))
		v = v.Slice(0, v.Cap())
		for i := range v.Len() {
			out = append(out, shown(v.Index(i)))
		}
	case reflect.Struct:
		for i := range v.NumField() {
			out = append(out, shown(v.Field(i)))
		}
	default:
		return fmt.Sprint(v)
	}
	return "{" + strings.Join(out, " ") + "}"
}

// scribble overwrites all lists of a value.
func scribble(v reflect.Value) {
	switch v.Kind() {
	case reflect.Slice:
		v = v.Slice(0, v.Cap())
		for i := range v.Len() {
			scribble(v.Index(i))
			v.Index(i).SetZero()
		}
	case reflect.Struct:
		for i := range v.NumField() {
			scribble(v.Field(i))
		}
	}
}

// Z2, Z7: arguments are not modified, also behind their lengths; results share no memory with them, and come again.
func TestArgumentsStay(t *testing.T) {
	for _, in := range inputs(200) {
		before := shown(reflect.ValueOf(in))
		for _, c := range calls {
			first := c.f(in)
			text := fmt.Sprintf("%+v", first)
			again := c.f(in)
			for _, x := range first {
				scribble(reflect.ValueOf(x))
			}
			if after := shown(reflect.ValueOf(in)); after != before {
				t.Fatalf("%s: %s became %s", c.name, before, after)
			}
			for _, results := range [][]any{again, c.f(in)} {
				if s := fmt.Sprintf("%+v", results); s != text {
					t.Fatalf("%s: %s, then %s", c.name, text, s)
				}
			}
		}
	}
}

// Z2: no two lists of a condition that was read share memory: what is appended to one of them is not in another one.
func TestParsedApart(t *testing.T) {
	c := cond("a && (b && (c || d || (e && f)) && !(a || (b || c)))")
	before := fmt.Sprint(c)
	var extend func(c api.Cond)
	extend = func(c api.Cond) {
		_ = append(c.Kids, comparison("z == 5"))
		for _, kid := range c.Kids {
			extend(kid)
		}
	}
	extend(c)
	is(t, "appended", fmt.Sprint(c), before)
}

// bare is a value whose lists have nothing behind their lengths, and are nil if they are empty.
func bare(v reflect.Value) reflect.Value {
	out := reflect.New(v.Type()).Elem()
	switch v.Kind() {
	case reflect.Slice:
		for i := range v.Len() {
			out.Set(reflect.Append(out, bare(v.Index(i))))
		}
		if v.Len() > 0 {
			out.Set(out.Slice3(0, v.Len(), v.Len()))
		}
	case reflect.Struct:
		for i := range v.NumField() {
			out.Field(i).Set(bare(v.Field(i)))
		}
	default:
		out.Set(v)
	}
	return out
}

func bareOf[T any](x T) T { return bare(reflect.ValueOf(x)).Interface().(T) }

// bareInput is an input whose lists are bare.
func bareInput(in input) input {
	in.claims, in.more, in.nodes, in.cond, in.postures = bareOf(in.claims), bareOf(in.more), bareOf(in.nodes), bareOf(in.cond), bareOf(in.postures)
	in.access, in.askings, in.facts, in.other = bareOf(in.access), bareOf(in.askings), bareOf(in.facts), bareOf(in.other)
	return in
}

// Z2, Z5: what is behind the length of a list is not looked at, and empty lists are as nil.
func TestMemoryBehindLists(t *testing.T) {
	for _, in := range inputs(500) {
		other := bareInput(in)
		for _, c := range calls {
			is(t, c.name, c.f(in), c.f(other))
		}
	}
	void := input{fresh: 1, node: "n", name: "a", claims: []api.Claim{}, more: []api.Claim{}, nodes: []string{}, cond: api.Cond{Kind: api.CondIs, Name: "a", Op: "==", Value: attr("5"), Kids: []api.Cond{}}}
	void.postures, void.access, void.askings, void.facts, void.other = []api.Posture{}, []api.Access{}, []api.Asking{}, []api.Fact{}, []api.Fact{}
	for _, c := range calls {
		is(t, c.name, c.f(void), c.f(bareInput(void)))
	}
}

// Z1: functions can be called by several goroutines at once.
func TestAtOnce(t *testing.T) {
	list := inputs(100)
	results := func() []string {
		var out []string
		for _, in := range list {
			for _, c := range calls {
				out = append(out, fmt.Sprintf("%+v", c.f(in)))
			}
		}
		return out
	}
	want := results()
	var wait sync.WaitGroup
	for range 8 {
		wait.Go(func() {
			if !slices.Equal(results(), want) {
				t.Error("results differ")
			}
		})
	}
	wait.Wait()
}
