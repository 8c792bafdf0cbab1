package control_test

import (
	"fmt"
	"math"
	"reflect"
	"slices"
	"strings"
	"sync"
	"testing"

	"holloway/api"
	"holloway/control"
	"holloway/name"
	"holloway/netmap"
)

// input has an argument of each type.
type input struct {
	s       api.Setting
	a, b    api.Book
	at      int
	f       api.Flow
	w       api.Window
	key     string
	name    string
	addr    api.Addr
	moments []int
	script  string
}

// served is what a console that was made says, with an error.
func served(c *control.Console, e api.Errno) []any {
	if c == nil {
		return all(api.Book{}, e)
	}
	return all(c.Book(), e)
}

// taken is the book of a console that has taken two books, with the error for the second one.
func taken(in input) []any {
	c, e := control.New(in.a.Setting, in.key)
	if e == api.OK {
		e = c.Take(in.a)
	}
	if e != api.OK {
		return all(api.Book{}, e)
	}
	before := c.Book()
	e = c.Take(in.b)
	if e != api.OK && !equal(c.Book(), before) {
		panic("it has changed")
	}
	return all(c.Book(), api.OK)
}

// call is one of the functions of package control, with all its results.
type call struct {
	name string
	f    func(in input) []any
}

var calls = []call{
	{"CheckSetting", func(in input) []any { return all(control.CheckSetting(in.s)) }},
	{"CheckBook", func(in input) []any { return all(control.CheckBook(in.a)) }},
	{"Merge", func(in input) []any { return all(control.Merge(in.a, in.b)) }},
	{"WorldAt", func(in input) []any { return all(control.WorldAt(in.a, in.at)) }},
	{"Permitted", func(in input) []any { return all(control.Permitted(in.a, in.f, in.at)) }},
	{"NextChange", func(in input) []any { return all(control.NextChange(in.a, in.at)) }},
	{"When", func(in input) []any { return all(control.When(in.a, in.f, in.w)) }},
	{"MapOf", func(in input) []any { return all(control.MapOf(in.a, in.key, in.at)) }},
	{"NamesOf", func(in input) []any { return all(control.NamesOf(in.a, in.at)) }},
	{"Resolve", func(in input) []any { return all(control.Resolve(in.a, in.name, in.at)) }},
	{"WhoIs", func(in input) []any { return all(control.WhoIs(in.a, in.addr, in.at)) }},
	{"Try", func(in input) []any { return all(control.Try(in.a, in.s, in.at)) }},
	{"Audit", func(in input) []any { return all(control.Audit(in.a)) }},
	{"Told", func(in input) []any { return all(control.Told(in.a, in.key, in.moments)) }},
	{"New", func(in input) []any { return served(control.New(in.s, in.key)) }},
	{"Take", taken},
}

// session is what a session says; there is no error beside it.
func session(in input) string { return control.Session(in.s, in.key, in.script) }

// callOf is the function of a name; it stops the test if there is none.
func callOf(name string) func(in input) []any {
	return calls[slices.IndexFunc(calls, func(c call) bool { return c.name == name })].f
}

// A mending mends the first thing that is wrong with an input, which had an error.
type mending struct {
	e    api.Errno
	mend func(in *input)
}

// ladder looks at the errors of a call with an input that is wrong throughout, and is mended step by step.
func ladder(t *testing.T, name string, steps ...mending) {
	t.Helper()
	f := callOf(name)
	in := input{s: office(), a: day(), b: day(), at: -1, f: api.Flow{}, w: window(1, 0), key: "K", name: "N", addr: api.Addr{Hi: 1}, moments: []int{-1}}
	in.s.Fresh, in.a.Claims[0].At, in.b.Health[0].Node = 0, -1, ""
	for i, s := range steps {
		is(t, fmt.Sprint(name, ", step ", i), errnoOf(f(in)), s.e)
		s.mend(&in)
	}
	is(t, name+", mended", errnoOf(f(in)), api.OK)
}

// P10.1, P10.2, P10.3, P10.4, P10.5, Z4
func TestErrorsInOrder(t *testing.T) {
	s := mending{api.ErrArg, func(in *input) { in.s.Fresh = 40 }}
	a := mending{api.ErrArg, func(in *input) { in.a = crowd(29, 69) }}
	at := mending{api.ErrArg, func(in *input) { in.at = 1_028 }}
	large := mending{api.ErrLarge, func(in *input) { in.at = 1_027 }}
	f := mending{api.ErrArg, func(in *input) { in.f.Proto = 1 }}
	key := mending{api.ErrName, func(in *input) { in.key = "k0000" }}
	ladder(t, "CheckSetting", s)
	ladder(t, "CheckBook", a)
	ladder(t, "Merge", mending{api.ErrArg, func(in *input) { in.a = day() }}, mending{api.ErrName, func(in *input) { in.b = day(); in.b.Setting.Fresh, in.b.Steps[0].Name = 9, "pc" }},
		mending{api.ErrConflict, func(in *input) { in.b.Setting.Fresh = 40 }}, mending{api.ErrConflict, func(in *input) { in.b.Steps[0].Name = "mac" }})
	ladder(t, "WorldAt", a, at, large)
	ladder(t, "Permitted", a, at, large, f)
	ladder(t, "NextChange", a, at, large, mending{api.ErrLarge, func(in *input) { in.at = 1_026 }})
	ladder(t, "When", a, f, mending{api.ErrArg, func(in *input) { in.w = window(1_000, 1_029) }}, mending{api.ErrLarge, func(in *input) { in.w.To = 1_028 }})
	ladder(t, "MapOf", a, at, large, mending{api.ErrNone, func(in *input) { in.key = "k0000" }})
	ladder(t, "NamesOf", a, at, large)
	ladder(t, "Resolve", a, at, large, mending{api.ErrName, func(in *input) {
		in.name = strings.Repeat("a.", 125) + "aa"
		in.a.Setting.Suffix = "xx"
	}}, mending{api.ErrLarge, func(in *input) { in.name = in.name[2:] }})
	ladder(t, "WhoIs", a, at, mending{api.ErrForm, func(in *input) { in.addr.Hi = 0 }}, large)
	ladder(t, "Try", a, mending{api.ErrArg, func(in *input) { in.s.Fresh = 40; in.s.Policy.Grants = slices.Repeat(in.s.Policy.Grants, 5) }}, at, large, mending{api.ErrLarge, func(in *input) { in.s.Policy.Grants = nil }})
	ladder(t, "Audit", a)
	ladder(t, "Told", a, key, mending{api.ErrArg, func(in *input) { in.moments = []int{1_028, 1_028} }}, mending{api.ErrOrder, func(in *input) { in.moments[1]++ }}, mending{api.ErrLarge, func(in *input) { in.moments = nil }})
	ladder(t, "New", s, key)
}

// P10.2, P10.3, P10.4: all functions with a book return its error first, and what is wrong with a moment behind it.
func TestBooksAndMomentsFirst(t *testing.T) {
	for _, c := range calls {
		in := input{s: office(), a: day(), b: day(), at: 20, f: flow("6 100.64.0.1 7 100.64.0.2 80"), w: window(0, 9), key: "n1", name: "mac", addr: ip("::1"), moments: []int{20}}
		is(t, c.name, errnoOf(c.f(in)), api.OK)
		if c.name != "CheckSetting" && c.name != "New" && c.name != "Take" {
			for _, f := range bookFaults() {
				x := in
				x.a, x.s, x.at, x.key, x.name, x.w, x.moments = day(), api.Setting{}, -1, "", "", window(-1, 0), []int{-1}
				x.f.To.Six, x.addr.Hi = true, 1
				f.do(&x.a)
				is(t, c.name+": "+f.name, errnoOf(c.f(x)), f.e)
			}
		}
		if strings.Contains("WorldAt Permitted NextChange MapOf NamesOf Resolve WhoIs Try", c.name) {
			for _, at := range notMoments {
				x := in
				x.at, x.key, x.name, x.f, x.addr = at, "", "", api.Flow{}, api.Addr{Hi: 1}
				is(t, c.name, errnoOf(c.f(x)), api.ErrArg)
			}
		}
	}
	for _, w := range []api.Window{window(-1, 0), window(1, 0), window(0, api.End+1), window(math.MinInt, math.MaxInt), window(math.MaxInt, math.MinInt)} {
		is(t, "When", all(control.When(day(), flow("6 ::1 7 ::2 80"), w)), all([]api.Window{}, api.ErrArg))
		is(t, "When", all(control.When(day(), flow("6 ::1 7 1.1.1.1 80"), w)), all([]api.Window{}, api.ErrType))
	}
}

// odd says sometimes that something shall be wrong.
func (r chance) odd() bool { return r.Intn(8) == 0 }

// input is a random input: with wild it is often wrong.
func (r chance) input(wild bool) input {
	in := input{s: r.setting(), a: r.book(), at: r.Intn(lastTold + 10), f: r.flow(), w: r.window(), key: pick(r, someNodes), name: pick(r, words("mac pc mac-1 zed")), addr: pick(r, someAddrs)}
	if r.Intn(2) == 0 {
		in.s = own(in.a.Setting, false)
		in.s.Policy = r.setting().Policy
	}
	for _, s := range []*api.Setting{&in.s, &in.a.Setting} {
		s.Policy.Grants = s.Policy.Grants[:min(r.Intn(6), len(s.Policy.Grants))]
	}
	in.b = api.Book{Setting: own(in.a.Setting, false), Steps: some(r, in.a.Steps), Claims: some(r, in.a.Claims), Askings: some(r, in.a.Askings), Health: some(r, in.a.Health)}
	for at := r.Intn(9); at < lastTold && len(in.moments) < 4; at += 1 + r.Intn(20) {
		in.moments = append(in.moments, at)
	}
	now := 0
	for range 12 {
		now++
		in.script += r.line(now) + "\n"
	}
	if wild {
		r.spoil(&in)
	}
	return in.owned(true)
}

// owned is an input in memory of its own, with room behind its lists or without.
func (in input) owned(room bool) input {
	in.s, in.a, in.b, in.moments = own(in.s, room), own(in.a, room), own(in.b, room), own(in.moments, room)
	return in
}

// spoil makes parts of an input wrong.
func (r chance) spoil(in *input) {
	odd := []int{math.MinInt, -1, api.End, math.MaxInt}
	for _, n := range []*int{&in.at, &in.w.From, &in.w.To, &in.f.Proto, &in.s.Fresh, &in.a.Setting.Directory.Life, &in.moments[0]} {
		if r.odd() {
			*n = pick(r, odd)
		}
	}
	if r.odd() {
		in.key, in.name = pick(r, notKeys), pick(r, notKeys)
	}
	if r.odd() {
		in.addr.Hi, in.f.To.Six = 7, !in.f.To.Six
	}
	if r.odd() {
		in.s.Suffix = pick(r, []string{"", "A", "a..b", "0"})
	}
	for _, b := range []*api.Book{&in.a, &in.b} {
		switch r.Intn(30) {
		case 0:
			b.Steps = append(b.Steps, api.Step{At: pick(r, odd)})
		case 1:
			b.Claims = append(b.Claims, api.Claim{At: pick(r, odd)})
		case 2:
			b.Askings = append(b.Askings, api.Asking{Kind: pick(r, odd)})
		case 3:
			b.Health = append(b.Health, api.Health{At: api.End - 1})
		case 4:
			b.Setting.Places = append(b.Setting.Places, api.Place{Node: "n1"})
		case 5:
			b.Setting.Postures = append(b.Setting.Postures, api.Posture{Key: "z", Cond: api.Cond{Kind: api.CondNot}})
		}
	}
	in.script = strings.Replace(in.script, pick(r, words("n a 1 0 k")), pick(r, words("N - 9 é")), 3)
}

// inputs are random inputs, right and wrong.
func inputs(n int) []input {
	r := newChance(15)
	return repeat(n, func(i int) input { return r.input(i%2 == 0) })
}

// alone says whether results beside an error are zero.
func alone(results []any) bool {
	for _, x := range results {
		if !reflect.ValueOf(own(x, false)).IsZero() {
			return false
		}
	}
	return true
}

// Z1, Z3, Z6: every call returns, without a panic; with an error all else is zero. The inputs lead to both, for each function.
func TestErrorsComeAlone(t *testing.T) {
	count := map[string][2]int{}
	for _, in := range inputs(600) {
		for _, c := range calls {
			results := c.f(in)
			n := count[c.name]
			if errnoOf(results) == api.OK {
				n[0]++
			} else {
				n[1]++
				if !alone(results[:len(results)-1]) {
					t.Errorf("%s: %+v with an error: %+v", c.name, in, results)
				}
			}
			count[c.name] = n
		}
		session(in)
	}
	for _, c := range calls {
		if n := count[c.name]; n[0] < 50 || n[1] < 20 {
			t.Errorf("%s: %d right ones, %d errors", c.name, n[0], n[1])
		}
	}
}

// Z1: long arguments are no matter.
func TestLongArguments(t *testing.T) {
	const n = 200_000
	long := strings.Repeat("a", n)
	s := office()
	s.Suffix = long
	for _, b := range []api.Book{
		{Setting: s},
		{Setting: api.Setting{Postures: make([]api.Posture, n)}},
		{Setting: api.Setting{Places: make([]api.Place, n), Routers: make([]api.Router, n), Access: make([]api.Access, n), Policy: api.Policy{Grants: make([]api.Grant, n)}}},
		{Setting: office(), Steps: make([]api.Step, n)},
		{Setting: office(), Claims: make([]api.Claim, n), Askings: make([]api.Asking, n), Health: make([]api.Health, n)},
	} {
		in := input{s: b.Setting, a: b, b: b, key: long, name: long, moments: make([]int, n), script: long}
		in.s.Fresh = 0
		for _, c := range calls {
			if e := errnoOf(c.f(in)); e == api.OK {
				t.Errorf("%s: no error", c.name)
			}
		}
		if got := session(in); !strings.HasPrefix(got, "error ") {
			t.Errorf("Session: %q", got)
		}
	}
	in := input{s: office(), a: day(), b: day(), key: long, name: long, moments: make([]int, n)}
	for name, e := range map[string]api.Errno{"MapOf": api.ErrNone, "Resolve": api.ErrLarge, "Told": api.ErrName, "New": api.ErrName} {
		is(t, name, errnoOf(callOf(name)(in)), e)
	}
	in.key = "n1"
	is(t, "Told", errnoOf(callOf("Told")(in)), api.ErrLarge)
	c := console("s")
	for _, line := range []string{long, strings.Repeat(" ", n), strings.Repeat("a ", n/2), "claim " + long[:n-6], "ask " + strings.Repeat("a ", n/2-2), "can 6 " + long[:n-6]} {
		is(t, "Do", c.Do(line), "error 9\n")
	}
	is(t, "Do", c.Do("peers "+long[:n-6]), "error 8\n")
	is(t, "Do", c.Do("up "+long[:n-3]), "error 5\n")
	is(t, "Do", c.Do("claim "+long[:n-10]+" a 5"), "error 5\n")
	is(t, "Do", c.Do("gone ann "+long[:n-9]), "error 5\n")
}

// shown is a value with what lies behind the lengths of its lists.
func shown(v reflect.Value) string {
	var out []string
	switch v.Kind() {
	case reflect.Slice:
		out = append(out, fmt.Sprint(v.Len()))
		v = v.Slice(0, v.Cap())
		for i := range v.Len() {
			out = append(out, shown(v.Index(i)))
		}
	case reflect.Struct:
		for i := range v.NumField() {
			out = append(out, shown(v.Field(i)))
		}
	default:
		return fmt.Sprint(v)
	}
	return "{" + strings.Join(out, " ") + "}"
}

// scribble overwrites all lists of a value.
func scribble(v reflect.Value) {
	switch v.Kind() {
	case reflect.Slice:
		v = v.Slice(0, v.Cap())
		for i := range v.Len() {
			scribble(v.Index(i))
			v.Index(i).SetZero()
		}
	case reflect.Struct:
		for i := range v.NumField() {
			scribble(v.Field(i))
		}
	}
}

// Z2, Z7: arguments are not modified, also behind their lengths; results share no memory with them, and come again.
func TestArgumentsStay(t *testing.T) {
	for _, in := range inputs(120) {
		before := shown(reflect.ValueOf(in))
		for _, c := range calls {
			first := c.f(in)
			text := fmtOf(first)
			again := c.f(in)
			for _, x := range first {
				scribble(reflect.ValueOf(x))
			}
			if after := shown(reflect.ValueOf(in)); after != before {
				t.Fatalf("%s: %s became %s", c.name, before, after)
			}
			for _, results := range [][]any{again, c.f(in)} {
				if s := fmtOf(results); s != text {
					t.Fatalf("%s: %s, then %s", c.name, text, s)
				}
			}
		}
		first := session(in)
		if after := shown(reflect.ValueOf(in)); after != before || session(in) != first {
			t.Fatalf("Session: %s became %s", before, after)
		}
	}
}

// Z2: a console keeps nothing of what it is given, and gives nothing that it keeps.
func TestConsolesKeepTheirOwn(t *testing.T) {
	for _, in := range inputs(120) {
		c, e := control.New(in.a.Setting, "s9")
		if e != api.OK || c.Take(in.a) != api.OK {
			continue
		}
		c.Do("tag ann n1 web")
		want := fmtOf(c.Book())
		scribble(reflect.ValueOf(in.a))
		is(t, "what it was given", fmtOf(c.Book()), want)
		scribble(reflect.ValueOf(c.Book()))
		is(t, "what it has given", fmtOf(c.Book()), want)
	}
}

// listsOf are all lists of a value that have room for something.
func listsOf(v reflect.Value) []reflect.Value {
	var out []reflect.Value
	switch v.Kind() {
	case reflect.Slice:
		if v.Cap() > 0 {
			out = append(out, v)
		}
		for i := range v.Len() {
			out = append(out, listsOf(v.Index(i))...)
		}
	case reflect.Struct:
		for i := range v.NumField() {
			out = append(out, listsOf(v.Field(i))...)
		}
	}
	return out
}

// Z2: no two lists of one result share memory, also behind their lengths.
func TestResultsAreApart(t *testing.T) {
	for _, in := range inputs(120) {
		for _, c := range calls {
			owner := map[uintptr]int{}
			for _, x := range c.f(in) {
				for i, l := range listsOf(reflect.ValueOf(x)) {
					whole := l.Slice(0, l.Cap())
					for k := range whole.Len() {
						at := whole.Index(k).Addr().Pointer()
						if other, is := owner[at]; is && other != i && whole.Index(k).Type().Size() > 0 {
							t.Fatalf("%s: lists %d and %d share memory", c.name, other, i)
						}
						owner[at] = i
					}
				}
			}
		}
	}
}

// Z2, Z5: what is behind the length of a list is not looked at, and empty lists are as nil.
func TestMemoryBehindLists(t *testing.T) {
	for _, in := range inputs(200) {
		bare := in.owned(false)
		for _, c := range calls {
			is(t, c.name, c.f(in), c.f(bare))
		}
		is(t, "Session", session(in), session(bare))
	}
}

// P10.1, P10.2, P10.3: what functions return is right.
func TestResultsAreRight(t *testing.T) {
	for _, in := range inputs(300) {
		for _, c := range calls {
			results := c.f(in)
			if errnoOf(results) != api.OK {
				continue
			}
			switch x := results[0].(type) {
			case api.Book:
				is(t, c.name, control.CheckBook(x), api.OK)
			case api.World:
				is(t, c.name, netmap.CheckWorld(x), api.OK)
			case api.Map:
				is(t, c.name, netmap.CheckMap(x), api.OK)
			case api.Zone:
				is(t, c.name, name.CheckZone(x), api.OK)
			}
		}
		for line := range strings.Lines(session(in)) {
			is(t, "a line", strings.HasSuffix(line, "\n") && strings.TrimSpace(line)+"\n" == line, true)
		}
	}
}

// Z1: functions can be called by several goroutines at once.
func TestAtOnce(t *testing.T) {
	list := inputs(30)
	results := func() []string {
		var out []string
		for _, in := range list {
			for _, c := range calls {
				out = append(out, fmtOf(c.f(in)))
			}
			out = append(out, session(in))
		}
		return out
	}
	want := results()
	var wait sync.WaitGroup
	for range 8 {
		wait.Go(func() {
			if !slices.Equal(results(), want) {
				t.Error("results differ")
			}
		})
	}
	wait.Wait()
}
