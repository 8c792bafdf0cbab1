package name_test

import (
	"fmt"
	"math"
	"reflect"
	"slices"
	"strings"
	"sync"
	"testing"

	"holloway/api"
	"holloway/name"
)

// input has an argument of each type.
type input struct {
	one, two string
	wishes   []api.Wish
	a        api.Addr
	z        api.Zone
	life     int
	called   []api.Called
	nodes    []api.Node
	kind     int
	n        api.Net
	m        api.Message
	b        []byte
	text     string
	most, at int
	got      []api.Record
}

// made is a cache in which something is kept, if it can be made and can keep it.
func made(in input) *name.Cache {
	c, e := name.New(in.most)
	if e != api.OK {
		c, _ = name.New(3)
	}
	for _, n := range words("x a.x a.a.x b.x a.y") {
		c.Put(3, n, api.RecordA, in.got, 9)
		c.Put(3, n, in.kind, nil, 5)
	}
	return c
}

// madeOf is how many entries a cache has that was made, with an error.
func madeOf(c *name.Cache, e api.Errno) []any {
	if c == nil {
		return all(0, e)
	}
	n, _ := c.Many(5)
	return all(n, e)
}

// call is one of the functions of package name, with all its results.
type call struct {
	name string
	f    func(in input) []any
}

var calls = []call{
	{"CheckDomain", func(in input) []any { return all(name.CheckDomain(in.one)) }},
	{"Under", func(in input) []any { return all(name.Under(in.one, in.two)) }},
	{"Compare", func(in input) []any { return all(name.Compare(in.one, in.two)) }},
	{"Label", func(in input) []any { return all(name.Label(in.one), name.CheckDomain(in.one)) }},
	{"Call", func(in input) []any { return all(name.Call(in.wishes)) }},
	{"Back", func(in input) []any { return all(name.Back(in.a)) }},
	{"BackTo", func(in input) []any { return all(name.BackTo(in.one)) }},
	{"CheckZone", func(in input) []any { return all(name.CheckZone(in.z)) }},
	{"ZoneOf", func(in input) []any { return all(name.ZoneOf(in.two, in.life, in.called, in.nodes)) }},
	{"Find", func(in input) []any { return all(name.Find(in.z, in.one, in.kind)) }},
	{"CheckSplits", func(in input) []any { return all(name.CheckSplits(in.n.Splits)) }},
	{"Servers", func(in input) []any { return all(name.Servers(in.n.Splits, in.one)) }},
	{"Names", func(in input) []any { return all(name.Names(in.n.Search, in.n.Dots, in.one)) }},
	{"CheckNet", func(in input) []any { return all(name.CheckNet(in.n)) }},
	{"Ask", func(in input) []any { return all(name.Ask(in.n, in.one, in.kind)) }},
	{"Encode", func(in input) []any { return all(name.Encode(in.m)) }},
	{"Decode", func(in input) []any { return all(name.Decode(in.b)) }},
	{"Text", func(in input) []any { return all(name.Text(in.z)) }},
	{"Read", func(in input) []any { return all(name.Read(in.text)) }},
	{"New", func(in input) []any { return madeOf(name.New(in.most)) }},
	{"Put", func(in input) []any { return all(made(in).Put(in.at, in.one, in.kind, in.got, in.life)) }},
	{"Get", func(in input) []any { return all(made(in).Get(in.at, in.one, in.kind)) }},
	{"Drop", func(in input) []any { return all(made(in).Drop(in.at, in.one)) }},
	{"Many", func(in input) []any { return all(made(in).Many(in.at)) }},
}

func errnoOf(results []any) api.Errno { return results[len(results)-1].(api.Errno) }

// behind is a list with memory behind its length.
func behind[T any](l []T, more ...T) []T { return append(slices.Clip(l), more...)[:len(l)] }

// odd says sometimes that something shall be wrong.
func (r chance) odd() bool { return r.Intn(6) == 0 }

// spoil makes one of a list wrong, sometimes.
func spoil[T any](r chance, l []T, wrong ...T) {
	if len(l) > 0 && r.odd() {
		l[r.Intn(len(l))] = pick(r, wrong)
	}
}

// input is a random input: with wild it is often wrong.
func (r chance) input(wild bool) input {
	in := input{one: r.below("x"), two: pick(r, words("x a.x arpa")), a: pick(r, []api.Addr{{Lo: 9}, {Six: true, Hi: 1}}), z: r.zone("x"), life: r.Intn(9), kind: pick(r, kinds), n: r.net(), m: r.message(), most: 1 + r.Intn(9), at: 3 + r.Intn(9)}
	if r.Intn(9) == 0 {
		in.one = backOf(in.a)
	}
	in.wishes = behind(repeat(r.Intn(5), func(i int) api.Wish {
		return api.Wish{Node: key(i), Name: pick(r, []string{"", "x", "X!"}), Joined: r.Intn(3)}
	}), api.Wish{Node: "z"})
	in.called = behind(repeat(r.Intn(5), func(i int) api.Called { return api.Called{Node: key(i), Label: key(r.Intn(5))} }), api.Called{Node: "z", Label: "z"})
	in.nodes = behind(repeat(r.Intn(5), func(i int) api.Node {
		return api.Node{Key: key(i), Addrs: behind([]api.Addr{{Lo: uint64(i)}, {Six: true, Lo: uint64(i)}}[:r.Intn(3)], api.Addr{Lo: 99})}
	}), api.Node{Key: "z"})
	in.b, _ = name.Encode(in.m)
	in.b = behind(in.b, 0, 0)
	in.text, _ = name.Text(in.z)
	in.got = behind(repeat(r.Intn(3), func(int) api.Record { return r.record(r.domain()) }), api.Record{}, api.Record{Life: -1})
	in.z.Records = behind(in.z.Records, api.Record{}, records("z.x a 5 0.0.0.0")[0])
	in.m.Asked, in.m.Got = behind(in.m.Asked, api.Question{}), behind(in.m.Got, api.Record{})
	in.n.Search, in.n.Splits, in.n.Sources = behind(in.n.Search, "z"), behind(in.n.Splits, api.Split{Suffix: "z"}), behind(in.n.Sources, api.Source{Server: "z"})
	if wild {
		r.spoil(&in)
	}
	return in
}

// spoil makes parts of an input wrong.
func (r chance) spoil(in *input) {
	for _, n := range []*int{&in.life, &in.kind, &in.most, &in.at, &in.n.Dots, &in.m.Id, &in.m.Code} {
		if r.odd() {
			*n = pick(r, []int{math.MinInt, -1, api.End + 1, math.MaxInt})
		}
	}
	for _, s := range []*string{&in.one, &in.two, &in.z.Root} {
		if r.odd() {
			*s = pick(r, []string{"", "A", "a.", "*.x", tooLong, "\xff"})
		}
	}
	wrong := []api.Record{{}, {Name: "a.x", Kind: api.RecordAlias}, {Name: "a.x", Kind: math.MaxInt}, {Name: "a.x", Kind: api.RecordWords, Life: math.MinInt}}
	spoil(r, in.wishes, api.Wish{}, api.Wish{Node: "a", Joined: math.MinInt}, api.Wish{Node: "a", Joined: math.MaxInt})
	spoil(r, in.called, api.Called{}, api.Called{Node: "k0000"})
	spoil(r, in.nodes, api.Node{}, api.Node{Key: "k0000", Addrs: []api.Addr{{Hi: 1}}})
	spoil(r, in.z.Records, wrong...)
	spoil(r, in.got, wrong...)
	spoil(r, in.m.Got, wrong...)
	spoil(r, in.m.Asked, api.Question{}, api.Question{Name: "a", Kind: math.MinInt})
	spoil(r, in.n.Search, "", tooLong)
	spoil(r, in.n.Splits, api.Split{}, api.Split{Suffix: "x", Servers: make([]string, 2)})
	spoil(r, in.n.Sources, api.Source{}, api.Source{Server: "sa", Zones: []api.Zone{{Root: "x", Records: wrong}}})
	if r.odd() {
		in.a = pick(r, []api.Addr{{Hi: 1}, {Lo: math.MaxUint64}})
	}
	if len(in.b) > 0 && r.Intn(3) > 0 {
		in.b = r.mangled(slices.Clone(in.b))
	}
	if text := []byte(in.text); len(text) > 0 && r.Intn(3) > 0 {
		text[r.Intn(len(text))] = byte(r.Intn(256))
		in.text = string(text)
	}
}

// inputs are random inputs, right and wrong.
func inputs(n int) []input {
	r := newChance(12)
	return repeat(n, func(i int) input { return r.input(i%2 == 0) })
}

// isVoid says whether a value is zero, or a list that is empty, or has nothing but such values.
func isVoid(v reflect.Value) bool {
	switch v.Kind() {
	case reflect.Slice:
		return v.Len() == 0
	case reflect.Struct:
		for i := range v.NumField() {
			if !isVoid(v.Field(i)) {
				return false
			}
		}
		return true
	}
	return v.IsZero()
}

// alone says whether results beside an error are zero; the number of a line need not be, and what is called a label is never without one.
func alone(name string, results []any) bool {
	for i, x := range results {
		if name != "Label" && (name != "Read" || i != 1) && !isVoid(reflect.ValueOf(x)) {
			return false
		}
	}
	return true
}

// Z1, Z3: every call returns, without a panic; with an error all else is zero, and so it is with false. The inputs lead to both, for each function.
func TestErrorsComeAlone(t *testing.T) {
	count := map[string][2]int{}
	for _, in := range inputs(2_000) {
		for _, c := range calls {
			results := c.f(in)
			n := count[c.name]
			n[min(int(errnoOf(results)), 1)]++
			count[c.name] = n
			no := len(results) == 3 && results[1] == any(false)
			if (errnoOf(results) != api.OK || no) && !alone(c.name, results[:len(results)-1]) {
				t.Errorf("%s: %+v with an error: %+v", c.name, in, results)
			}
		}
	}
	for _, c := range calls {
		if n := count[c.name]; n[0] < 50 || n[1] < 50 {
			t.Errorf("%s: %d right ones, %d errors", c.name, n[0], n[1])
		}
	}
}

// Z1: long arguments are no matter.
func TestLongArguments(t *testing.T) {
	const n = 200_000
	s := strings.Repeat("a", n)
	in := input{one: s, two: s, wishes: make([]api.Wish, n), a: api.Addr{Hi: 1}, z: api.Zone{Root: "x", Records: make([]api.Record, n)}, called: make([]api.Called, n), kind: n, b: make([]byte, n), text: s, at: -1}
	in.n = api.Net{Search: make([]string, n), Splits: make([]api.Split, n)}
	in.m.Asked = make([]api.Question, n)
	for _, c := range calls {
		if e := errnoOf(c.f(in)); e == api.OK {
			t.Errorf("%s: %v", c.name, e)
		}
	}
	is(t, "a long label", name.Label(s), s[:63])
	is(t, "no long label", all(name.Label(strings.Repeat("-", n)), name.Label(strings.Repeat("\x00", n-1)+"a")), all("node", "a"))
	dots := strings.Repeat(".", n)
	is(t, "points", all(name.CheckDomain(dots), name.CheckSplits([]api.Split{{Suffix: dots}})), all(api.ErrLarge, api.ErrLarge))
	is(t, "servers", name.CheckSplits([]api.Split{{Servers: make([]string, n)}}), api.ErrLarge)
	is(t, "sources", name.CheckNet(api.Net{Sources: make([]api.Source, n)}), api.ErrLarge)
	is(t, "zones", name.CheckNet(api.Net{Sources: []api.Source{{Server: "s", Zones: make([]api.Zone, n)}}}), api.ErrLarge)
	is(t, "nodes", zoneOfErrno(of{"x", 0, nil, make([]api.Node, n)}), api.ErrLarge)
	is(t, "addresses", zoneOfErrno(of{"x", 0, nil, []api.Node{{Key: "a", Addrs: make([]api.Addr, n)}}}), api.ErrLarge)
	_, e := name.Encode(api.Message{Got: make([]api.Record, n)})
	is(t, "records", e, api.ErrLarge)
	is(t, "records", made(in).Put(3, "a", api.RecordA, make([]api.Record, n), 1), api.ErrLarge)
	for _, f := range checkers {
		is(t, "words", f.f(api.Record{Name: "x", Kind: api.RecordWords, Words: s}), api.ErrForm)
		is(t, "a name", f.f(api.Record{Name: "*." + s, Kind: api.RecordWords}), api.ErrName)
		is(t, "another name", f.f(api.Record{Name: "x", Kind: api.RecordBack, To: s}), api.ErrName)
	}
	for _, s := range []string{dots, "zone x\n" + strings.Repeat("\n", n-7), strings.Repeat("zone x\n", n/7), "zone x\n" + strings.Repeat("x a 5 0.0.0.0\n", n/15), "zone x\nx words 5 " + strings.Repeat("a", n-18) + "\n"} {
		_, _, e := name.Read(s)
		is(t, "Read", e == api.OK, false)
	}
}

// Z1: a net that is as large as it can be.
func TestLargeNet(t *testing.T) {
	n := api.Net{Search: repeat(api.MaxSearch, key), Splits: []api.Split{{Servers: repeat(api.MaxServers, key)}}}
	n.Sources = repeat(api.MaxServers, func(i int) api.Source {
		return api.Source{Server: key(i), Zones: repeat(api.MaxZones, func(k int) api.Zone {
			z := api.Zone{Root: key(k)}
			z.Records = repeat(api.MaxRecords, func(j int) api.Record {
				return api.Record{Name: key(j+k) + "." + long(240, z.Root), Kind: api.RecordAlias, To: "a"}
			})
			return z
		})}
	})
	is(t, "CheckNet", name.CheckNet(n), api.OK)
	want := n.Sources[0].Zones[9].Records[1_999]
	is(t, "Ask", all(name.Ask(n, strings.TrimSuffix(want.Name, ".k0009"), api.RecordAlias)), all(api.Answer{Name: want.Name, Server: key(0), Records: []api.Record{want}}, api.OK))
}

// shown is a value with what lies behind the lengths of its lists.
func shown(v reflect.Value) string {
	var out []string
	switch v.Kind() {
	case reflect.Slice:
		out = append(out, fmt.Sprint(v.Len()))
		v = v.Slice(0, v.Cap())
		for i := range v.Len() {
			out = append(out, shown(v.Index(i)))
		}
	case reflect.Struct:
		for i := range v.NumField() {
			out = append(out, shown(v.Field(i)))
		}
	default:
		return fmt.Sprint(v)
	}
	return "{" + strings.Join(out, " ") + "}"
}

// scribble overwrites all lists of a value.
func scribble(v reflect.Value) {
	switch v.Kind() {
	case reflect.Slice:
		v = v.Slice(0, v.Cap())
		for i := range v.Len() {
			scribble(v.Index(i))
			v.Index(i).SetZero()
		}
	case reflect.Struct:
		for i := range v.NumField() {
			scribble(v.Field(i))
		}
	}
}

// Z2, Z7: arguments are not modified, also behind their lengths; results share no memory with them, and come again.
func TestArgumentsStay(t *testing.T) {
	for _, in := range inputs(200) {
		before := shown(reflect.ValueOf(in))
		for _, c := range calls {
			first := c.f(in)
			text := fmt.Sprintf("%+v", first)
			again := c.f(in)
			for _, x := range first {
				scribble(reflect.ValueOf(x))
			}
			if after := shown(reflect.ValueOf(in)); after != before {
				t.Fatalf("%s: %s became %s", c.name, before, after)
			}
			for _, results := range [][]any{again, c.f(in)} {
				if s := fmt.Sprintf("%+v", results); s != text {
					t.Fatalf("%s: %s, then %s", c.name, text, s)
				}
			}
		}
	}
}

// bare is a value whose lists have nothing behind their lengths, and are nil if they are empty.
func bare(v reflect.Value) reflect.Value {
	out := reflect.New(v.Type()).Elem()
	switch v.Kind() {
	case reflect.Slice:
		for i := range v.Len() {
			out.Set(reflect.Append(out, bare(v.Index(i))))
		}
		if v.Len() > 0 {
			out.Set(out.Slice3(0, v.Len(), v.Len()))
		}
	case reflect.Struct:
		for i := range v.NumField() {
			out.Field(i).Set(bare(v.Field(i)))
		}
	default:
		out.Set(v)
	}
	return out
}

// bareInput is an input whose lists are bare.
func bareInput(in input) input {
	of := func(x any) any { return bare(reflect.ValueOf(x)).Interface() }
	in.wishes, in.z, in.called, in.nodes = of(in.wishes).([]api.Wish), of(in.z).(api.Zone), of(in.called).([]api.Called), of(in.nodes).([]api.Node)
	in.n, in.m, in.b, in.got = of(in.n).(api.Net), of(in.m).(api.Message), of(in.b).([]byte), of(in.got).([]api.Record)
	return in
}

// Z2, Z5: what is behind the length of a list is not looked at, and empty lists are as nil.
func TestMemoryBehindLists(t *testing.T) {
	for _, in := range inputs(500) {
		other := bareInput(in)
		for _, c := range calls {
			is(t, c.name, c.f(in), c.f(other))
		}
	}
	void := input{wishes: []api.Wish{}, z: api.Zone{Root: "x", Records: []api.Record{}}, called: []api.Called{}, nodes: []api.Node{}, b: []byte{}, got: []api.Record{}}
	void.n = api.Net{Search: []string{}, Splits: []api.Split{}, Sources: []api.Source{{Server: "a", Zones: []api.Zone{}}}}
	void.m = api.Message{Asked: []api.Question{}, Got: []api.Record{}}
	for _, c := range calls {
		is(t, c.name, c.f(void), c.f(bareInput(void)))
	}
}

// Z1: functions can be called by several goroutines at once.
func TestAtOnce(t *testing.T) {
	list := inputs(100)
	results := func() []string {
		var out []string
		for _, in := range list {
			for _, c := range calls {
				out = append(out, fmt.Sprintf("%+v", c.f(in)))
			}
		}
		return out
	}
	want := results()
	var wait sync.WaitGroup
	for range 8 {
		wait.Go(func() {
			if !slices.Equal(results(), want) {
				t.Error("results differ")
			}
		})
	}
	wait.Wait()
}
