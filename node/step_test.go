package node_test

import (
	"fmt"
	"math"
	"strings"
	"testing"

	"holloway/api"
	"holloway/node"
)

// right has a right step of each kind, with all fields that it uses.
var right = []string{
	"5 key ann k web 9 1 yes",
	"5 revoke ann k",
	"5 join ann n k 0a laptop",
	"5 approve ann n",
	"5 renew ann n 0b",
	"5 name ann n other",
	"5 tag ann n db,web",
	"5 expire ann n",
	"5 gone ann n",
}

// fields sets each field that a kind can use, in the order of the document's table, to a right value, and to wrong ones.
var fields = []struct {
	name  string
	right func(s *api.Step)
	wrong []func(s *api.Step)
	e     []api.Errno
}{
	{"By", func(s *api.Step) { s.By = "bob" }, wrongWords(notKeys, func(s *api.Step, w string) { s.By = w }), same(notKeys)},
	{"Node", func(s *api.Step) { s.Node = "n7" }, wrongWords(notKeys, func(s *api.Step, w string) { s.Node = w }), same(notKeys)},
	{"Join", func(s *api.Step) { s.Join = "k7" }, wrongWords(notKeys, func(s *api.Step, w string) { s.Join = w }), same(notKeys)},
	{"Public", func(s *api.Step) { s.Public = "7" }, wrongWords(notPublics, func(s *api.Step, w string) { s.Public = w }), same(notPublics)},
	{"Name", func(s *api.Step) { s.Name = "seven" }, wrongWords(notKeys, func(s *api.Step, w string) { s.Name = w }), same(notKeys)},
	{"Tags", func(s *api.Step) { s.Tags = keys(api.MaxTags) }, []func(s *api.Step){
		func(s *api.Step) { s.Tags = keys(api.MaxTags + 1) },
		func(s *api.Step) { s.Tags = make([]string, api.MaxTags+1) },
		func(s *api.Step) { s.Tags = []string{""} },
		func(s *api.Step) { s.Tags = []string{"b", "A"} },
		func(s *api.Step) { s.Tags = []string{"b", "a", "A"} },
		func(s *api.Step) { s.Tags = []string{"a", "a"} },
	}, []api.Errno{api.ErrLarge, api.ErrLarge, api.ErrName, api.ErrName, api.ErrOrder, api.ErrOrder}},
	{"Until", func(s *api.Step) { s.Until = 999_999_999 }, wrongNumbers(func(s *api.Step, n int) { s.Until = n }), []api.Errno{api.ErrArg, api.ErrArg, api.ErrArg, api.ErrArg}},
	{"Uses", func(s *api.Step) { s.Uses = 999_999_999 }, wrongNumbers(func(s *api.Step, n int) { s.Uses = n }), []api.Errno{api.ErrArg, api.ErrArg, api.ErrArg, api.ErrArg}},
	{"Ready", func(s *api.Step) { s.Ready = true }, nil, nil},
}

func wrongWords(l []string, set func(s *api.Step, w string)) []func(s *api.Step) {
	var out []func(s *api.Step)
	for _, w := range l {
		out = append(out, func(s *api.Step) { set(s, w) })
	}
	return out
}

func wrongNumbers(set func(s *api.Step, n int)) []func(s *api.Step) {
	var out []func(s *api.Step)
	for _, n := range []int{-1, 1_000_000_000, math.MinInt, math.MaxInt} {
		out = append(out, func(s *api.Step) { set(s, n) })
	}
	return out
}

func same(l []string) []api.Errno {
	return repeat(len(l), func(int) api.Errno { return api.ErrName })
}

// use is how a kind uses a field: + or -, or ?, if it can be empty.
func use(kind, field int) byte {
	row := []string{"+-+--++++", "+-+------", "?+?++----", "++-------", "++-+-----", "++--+----", "++---+---", "++-------", "++-------"}
	return row[kind-1][field]
}

// P2.2
func TestRightSteps(t *testing.T) {
	for _, line := range right {
		s := step(line)
		is(t, line, node.Check([]api.Step{s}), api.OK)
		for _, at := range []int{0, api.End - 1} {
			s.At = at
			is(t, line, node.Check([]api.Step{s}), api.OK)
		}
		for _, no := range []int{1, 1_000_000} {
			s.No = no
			is(t, line, node.Check([]api.Step{s}), api.OK)
		}
		s.Server = longKey
		is(t, line, node.Check([]api.Step{s}), api.OK)
	}
	for _, line := range []string{"5 key ann k - 0 0 no", "5 join - n k 0a x", "5 join ann n - 0a x", "5 join - n - 0a x", "5 tag ann n -", "5 renew ann n 0123456789abcdef0000", "5 renew ann n f"} {
		is(t, line, node.Check(log(line)), api.OK)
	}
	is(t, "none", node.Check(nil), api.OK)
}

// P2.2: what a kind uses must be right; what it does not use must be zero.
func TestFields(t *testing.T) {
	for _, line := range right {
		for i, f := range fields {
			s := step(line)
			f.right(&s)
			want := api.OK
			if use(s.Kind, i) == '-' {
				want = api.ErrForm
			}
			is(t, line+": "+f.name, node.Check([]api.Step{s}), want)
			for k, wrong := range f.wrong {
				s := step(line)
				wrong(&s)
				want := f.e[k]
				empty := i < 5 && k == 0
				if use(s.Kind, i) == '-' {
					want = api.ErrForm
				}
				if use(s.Kind, i) != '+' && empty {
					want = api.OK
				}
				is(t, fmt.Sprint(line, ": ", f.name, k), node.Check([]api.Step{s}), want)
			}
		}
	}
}

// P2.2, Z4: the fields are looked at in the order of the table, then those that must be zero; ahead of them the others.
func TestOrderOfFields(t *testing.T) {
	for _, line := range right {
		s := step(line)
		for i := range fields {
			if use(s.Kind, i) == '-' {
				fields[i].right(&s)
			}
		}
		is(t, line, node.Check([]api.Step{s}), api.ErrForm)
		for i := len(fields) - 1; i >= 0; i-- {
			if use(s.Kind, i) == '-' || fields[i].wrong == nil {
				continue
			}
			last := len(fields[i].wrong) - 1
			fields[i].wrong[last](&s)
			is(t, line+": "+fields[i].name, node.Check([]api.Step{s}), fields[i].e[last])
		}
		for _, kind := range []int{0, 10, -1, math.MinInt, math.MaxInt} {
			s.Kind = kind
			is(t, line+": Kind", node.Check([]api.Step{s}), api.ErrKind)
		}
		for _, no := range []int{0, -1, 1_000_001, math.MinInt, math.MaxInt} {
			s.No = no
			is(t, line+": No", node.Check([]api.Step{s}), api.ErrArg)
		}
		for _, server := range notKeys {
			s.Server = server
			is(t, line+": Server", node.Check([]api.Step{s}), api.ErrName)
		}
		for _, at := range []int{-1, api.End, math.MinInt, math.MaxInt} {
			s.At = at
			is(t, line+": At", node.Check([]api.Step{s}), api.ErrArg)
		}
	}
}

const gone = "gone ann n1"

// P2.2, Z4
func TestCheck(t *testing.T) {
	late := func(at int) string { return fmt.Sprint(at, " ", gone) }
	many := func(n int) []api.Step {
		return repeat(n, func(i int) api.Step { return by("s", i+1, late(i)) })
	}
	for _, c := range []struct {
		name string
		l    []api.Step
		e    api.Errno
	}{
		{"as many as there can be", many(api.MaxSteps), api.OK},
		{"too many", many(api.MaxSteps + 1), api.ErrLarge},
		{"too many, ahead of wrong ones", make([]api.Step, api.MaxSteps+1), api.ErrLarge},
		{"by moments", []api.Step{by("b", 2, late(1)), by("a", 1, late(2))}, api.OK},
		{"by servers", []api.Step{by("a", 2, late(1)), by("b", 1, late(1))}, api.OK},
		{"by numbers", []api.Step{by("a", 1, late(1)), by("a", 2, late(1))}, api.OK},
		{"numbers that fall", []api.Step{by("a", 9, late(1)), by("a", 2, late(2))}, api.OK},
		{"moments that fall", []api.Step{by("a", 1, late(2)), by("b", 2, late(1))}, api.ErrOrder},
		{"servers that fall", []api.Step{by("b", 1, late(1)), by("a", 2, late(1))}, api.ErrOrder},
		{"numbers that fall at a moment", []api.Step{by("a", 2, late(1)), by("a", 1, late(1))}, api.ErrOrder},
		{"numbers are numbers", []api.Step{by("a", 9, late(1)), by("a", 10, late(1))}, api.OK},
		{"servers are strings", []api.Step{by("a10", 1, late(1)), by("a9", 1, late(1))}, api.OK},
		{"a step twice", []api.Step{by("a", 1, late(1)), by("a", 1, late(1))}, api.ErrOrder},
		{"a number twice", []api.Step{by("a", 1, late(1)), by("a", 1, late(2))}, api.ErrTwice},
		{"a number twice, not side by side", []api.Step{by("a", 1, late(1)), by("b", 1, late(1)), by("c", 1, late(1)), by("a", 1, late(2))}, api.ErrTwice},
		{"the form, ahead of the order", []api.Step{by("a", 1, late(2)), by("a", 1, "1 gone A n1")}, api.ErrName},
		{"the order, ahead of a number twice", []api.Step{by("a", 1, late(2)), by("a", 1, late(1))}, api.ErrOrder},
		{"the order, ahead of a later form", []api.Step{by("a", 1, late(2)), by("a", 2, late(1)), by("a", 3, "9 gone A n1")}, api.ErrOrder},
		{"a number twice, ahead of a later form", []api.Step{by("a", 1, late(1)), by("a", 1, late(2)), by("a", 3, "9 gone A n1")}, api.ErrTwice},
	} {
		is(t, c.name, node.Check(c.l), c.e)
		is(t, c.name, all(node.Merge(c.l, nil))[1], c.e)
		is(t, c.name, all(node.Merge(nil, c.l))[1], c.e)
		if c.e == api.OK {
			continue
		}
		in := input{d: office(1, false), l: c.l, node: "A", public: "A", user: "A", tag: "A", at: -1, within: -1, w: window(1, 0), places: []api.Place{{Node: "A"}}}
		for _, f := range calls {
			if f.directory && f.log {
				is(t, f.name+": "+c.name, errnoOf(f.f(in)), c.e)
			}
		}
	}
}

// P2.2
func TestMerge(t *testing.T) {
	l := []api.Step{by("a", 2, "1 gone ann n1"), by("b", 1, "1 tag ann n1 db,web"), by("a", 1, "3 key ann k web 9 1 yes"), by("c", 7, "4 join - n1 k 0a x")}
	for mask := range 16 {
		for other := range 16 {
			a, b := part(l, mask), part(l, other)
			is(t, "Merge", all(node.Merge(a, b)), all(part(l, mask|other), api.OK))
		}
	}
	changed := []func(s *api.Step){
		func(s *api.Step) { s.At++ }, func(s *api.Step) { s.Kind, s.Join = api.StepGone, "" }, func(s *api.Step) { s.By = "bob" }, func(s *api.Step) { s.Node = "n2" }, func(s *api.Step) { s.Join = "k2" },
		func(s *api.Step) { s.Public = "0b" }, func(s *api.Step) { s.Name = "y" }, func(s *api.Step) { s.Tags = []string{"web"} }, func(s *api.Step) { s.Tags = []string{"dbweb"} }, func(s *api.Step) { s.Tags = nil },
		func(s *api.Step) { s.Until++ }, func(s *api.Step) { s.Uses++ }, func(s *api.Step) { s.Ready = false }, func(s *api.Step) { s.Until, s.Uses = 91, 0 },
	}
	tried := 0
	for i := range l {
		for _, change := range changed {
			s := l[i]
			change(&s)
			if node.Check([]api.Step{s}) != api.OK || fmt.Sprint(s) == fmt.Sprint(l[i]) {
				continue
			}
			tried++
			is(t, "conflict", all(node.Merge(l, []api.Step{s})), all([]api.Step{}, api.ErrConflict))
			is(t, "conflict", all(node.Merge([]api.Step{s}, l)), all([]api.Step{}, api.ErrConflict))
		}
	}
	if tried < 20 {
		t.Errorf("%d conflicts", tried)
	}
}

// part are the steps whose bits a number has.
func part(l []api.Step, mask int) []api.Step {
	var out []api.Step
	for i, s := range l {
		if mask>>i&1 == 1 {
			out = append(out, s)
		}
	}
	return out
}

// P2.2, Z4
func TestErrorsOfMerge(t *testing.T) {
	many := repeat(api.MaxSteps, func(i int) api.Step { return by("s", i+1, fmt.Sprint(i, " ", gone)) })
	more := by("t", 1, "7 "+gone)
	x, e := node.Merge(many, many[7:])
	is(t, "Merge", all(len(x), node.Check(x), e), all(api.MaxSteps, api.OK, api.OK))
	is(t, "Merge", all(node.Merge(many, []api.Step{more})), all([]api.Step{}, api.ErrLarge))
	other := by("s", 3, "8 gone bob n1")
	is(t, "a conflict, ahead of too many", all(node.Merge(many, inOrder([]api.Step{more, other}))), all([]api.Step{}, api.ErrConflict))
	falling, bad := []api.Step{by("a", 2, "2 "+gone), by("a", 1, "1 "+gone)}, []api.Step{by("a", 2, "2 gone A n1")}
	is(t, "a, ahead of b", all(node.Merge(falling, bad)), all([]api.Step{}, api.ErrOrder))
	is(t, "a, ahead of b", all(node.Merge(bad, falling)), all([]api.Step{}, api.ErrName))
	is(t, "a, ahead of b", all(node.Merge(many, bad)), all([]api.Step{}, api.ErrName))
}

// example has a step of each kind, and the document's example.
const example = "5 s1 1 join ann n1 - 0a laptop\n" +
	"6 s1 2 key bob k1 db,ops 50 1 yes\n" +
	"6 s1 4 key bob k2 - 999999999 0 no\n" +
	"7 s2 1 join - n2 k1 0b store\n" +
	"9 s1 3 tag ann n1 web\n" +
	"9 s1 1000000 tag ann n1 -\n" +
	"10 s2 3 approve ann n1\n" +
	"11 s2 2 renew ann n1 0123456789abcdef0123\n" +
	"12 s-_0 1 name ann n1 x\n" +
	"13 s1 5 expire ann n1\n" +
	"14 s1 6 revoke bob k1\n" +
	"15 s1 7 join - n4 - 00 y\n" +
	"345686399 s1 8 gone ann n1\n"

func exampleSteps() []api.Step {
	return []api.Step{
		by("s1", 1, "5 join ann n1 - 0a laptop"), by("s1", 2, "6 key bob k1 db,ops 50 1 yes"), by("s1", 4, "6 key bob k2 - 999999999 0 no"), by("s2", 1, "7 join - n2 k1 0b store"),
		by("s1", 3, "9 tag ann n1 web"), by("s1", 1_000_000, "9 tag ann n1 -"), by("s2", 3, "10 approve ann n1"), by("s2", 2, "11 renew ann n1 0123456789abcdef0123"),
		by("s-_0", 1, "12 name ann n1 x"), by("s1", 5, "13 expire ann n1"), by("s1", 6, "14 revoke bob k1"), by("s1", 7, "15 join - n4 - 00 y"), by("s1", 8, "345686399 gone ann n1"),
	}
}

// P2.7, Z10
func TestTexts(t *testing.T) {
	is(t, "Text", all(node.Text(exampleSteps())), all(example, api.OK))
	is(t, "Read", all(node.Read(example)), all(exampleSteps(), 0, api.OK))
	is(t, "Text", all(node.Text(nil)), all("", api.OK))
	is(t, "Read", all(node.Read("")), all([]api.Step{}, 0, api.OK))
	for i, s := range exampleSteps() {
		line := strings.SplitAfter(example, "\n")[i]
		is(t, "Text", all(node.Text([]api.Step{s})), all(line, api.OK))
		is(t, "Read", all(node.Read(line)), all([]api.Step{s}, 0, api.OK))
	}
}

// noSteps are lines that have not the form of a step.
var noSteps = []string{
	"", " ", "5", "5 s1", "5 s1 1", "5 s1 1 ", "5 s1 1 dance", "5 s1 1 dance ann n1", "5 s1 1 GONE ann n1", "5 s1 1 - ann n1", "5 s1 1 9 ann n1", "5 s1 1  ann n1",
	"5 s1 1 gone", "5 s1 1 gone ann", "5 s1 1 gone ann n1 n1", "5 s1 1 gone ann n1 ", " 5 s1 1 gone ann n1", "5  s1 1 gone ann n1", "5 s1 1 gone  n1", "5 s1 1 gone ann ", "5 s1 1 gone ann  n1",
	"05 s1 1 gone ann n1", "-0 s1 1 gone ann n1", "+5 s1 1 gone ann n1", "5. s1 1 gone ann n1", "- s1 1 gone ann n1", "x s1 1 gone ann n1", "1234567890 s1 1 gone ann n1", "-1234567890 s1 1 gone ann n1",
	"5 s1 01 gone ann n1", "5 s1 -0 gone ann n1", "5 s1 - gone ann n1", "5 s1 one gone ann n1", "5 s1 1234567890 gone ann n1", "5  1 gone ann n1",
	"5 s1 1 join ann n1 - 0a", "5 s1 1 join ann n1 - 0a x y", "5 s1 1 join ann n1 0a x", "5 s1 1 join ann n1  0a x", "5 s1 1 key bob k1 db 50 1", "5 s1 1 key bob k1 db 50 1 yes no",
	"5 s1 1 key bob k1 db 050 1 yes", "5 s1 1 key bob k1 db - 1 yes", "5 s1 1 key bob k1 db 1234567890 1 yes", "5 s1 1 key bob k1 db 50 -0 yes", "5 s1 1 key bob k1 db 50 a yes",
	"5 s1 1 key bob k1 db 50 1 Yes", "5 s1 1 key bob k1 db 50 1 -", "5 s1 1 key bob k1 db 50 1 true", "5 s1 1 key bob k1 db 50 1 1", "5 s1 1 key bob k1 , 50 1 yes", "5 s1 1 key bob k1 db, 50 1 yes", "5 s1 1 key bob k1 ,db 50 1 yes", "5 s1 1 key bob k1 a,,b 50 1 yes", "5 s1 1 key bob k1 a, b 50 1 yes", "5 s1 1 key bob k1  50 1 yes",
	"5 s1 1 tag ann n1", "5 s1 1 tag ann n1 ,", "5 s1 1 approve ann n1 yes", "5 s1 1 renew ann n1", "5 s1 1 name ann n1", "5 s1 1 revoke ann", "5 s1 1 revoke ann n1 k1", "5\ts1 1 gone ann n1",
}

// P2.7, Z3
func TestNoSteps(t *testing.T) {
	for _, line := range noSteps {
		is(t, line, all(node.Read(line+"\n")), all([]api.Step{}, 0, api.ErrSyntax))
		is(t, line, all(node.Read(example+line+"\n"+example)), all([]api.Step{}, 13, api.ErrSyntax))
		is(t, line, all(node.Read("9 s1 1 gone ann n1\n5 s1 1 gone A n1\n"+line+"\nx\n")), all([]api.Step{}, 2, api.ErrSyntax))
	}
	for _, s := range []string{"5 s1 1 gone ann n1", example + "5 s1 1 gone ann n1", example[:len(example)-1]} {
		is(t, "not ended", all(node.Read(s)), all([]api.Step{}, strings.Count(s, "\n"), api.ErrSyntax))
	}
}

// P2.7: a line that has the form can still be no step.
func TestReadChecks(t *testing.T) {
	for _, c := range []struct {
		text string
		e    api.Errno
	}{
		{"-5 s1 1 gone ann n1\n", api.ErrArg}, {"-999999999 s1 1 gone ann n1\n", api.ErrArg}, {"345686400 s1 1 gone ann n1\n", api.ErrArg}, {"999999999 s1 1 gone ann n1\n", api.ErrArg},
		{"5 - 1 gone ann n1\n", api.ErrName}, {"5 S1 1 gone ann n1\n", api.ErrName}, {"5 s1 0 gone ann n1\n", api.ErrArg}, {"5 s1 -1 gone ann n1\n", api.ErrArg}, {"5 s1 1000001 gone ann n1\n", api.ErrArg},
		{"5 s1 1 gone - n1\n", api.ErrName}, {"5 s1 1 gone ann -\n", api.ErrName}, {"5 s1 1 gone ann n1\r\n", api.ErrName}, {"5 s1 1 gone ann N1\n", api.ErrName}, {"5 s1 1 gone ann n\t1\n", api.ErrName},
		{"5 s1 1 join ann n1 - - x\n", api.ErrName}, {"5 s1 1 join ann n1 - 0A x\n", api.ErrName}, {"5 s1 1 join ann n1 K 0a x\n", api.ErrName}, {"5 s1 1 join ann - - 0a x\n", api.ErrName},
		{"5 s1 1 key bob k1 -,a 50 1 yes\n", api.ErrName}, {"5 s1 1 key bob k1 a,- 50 1 yes\n", api.ErrName}, {"5 s1 1 key bob k1 b,a 50 1 yes\n", api.ErrOrder}, {"5 s1 1 key bob k1 a,a 50 1 yes\n", api.ErrOrder},
		{"5 s1 1 key bob k1 a,b,c,d,e,f,g,h,i,j,k 50 1 yes\n", api.ErrLarge}, {"5 s1 1 key bob k1 - -1 1 yes\n", api.ErrArg}, {"5 s1 1 key bob k1 - 1 -1 yes\n", api.ErrArg}, {"5 s1 1 key bob - - 50 1 yes\n", api.ErrName},
		{"5 s1 1 gone ann n1\n4 s1 2 gone ann n1\n", api.ErrOrder}, {"5 s1 1 gone ann n1\n6 s1 1 gone ann n1\n", api.ErrTwice},
		{strings.Repeat("5 s1 1 gone ann n1\n", api.MaxSteps+1), api.ErrLarge},
	} {
		is(t, c.text, all(node.Read(c.text)), all([]api.Step{}, 0, c.e))
	}
	is(t, "0", all(node.Read("0 s1 1 gone ann n1\n")), all([]api.Step{by("s1", 1, "0 gone ann n1")}, 0, api.OK))
}

// P2.7: as much text as can be, and a byte more.
func TestLongTexts(t *testing.T) {
	l := repeat(api.MaxSteps, func(i int) api.Step { // 100 bytes each
		return by("s1", 100_001+i, fmt.Sprint(100_000+i, " gone ", longKey, " ", longKey[:36]))
	})
	text, e := node.Text(l)
	is(t, "Text", all(len(text), e), all(api.MaxText, api.OK))
	is(t, "Read", all(node.Read(text)), all(l, 0, api.OK))
	is(t, "Read", all(node.Read(text+"x")), all([]api.Step{}, 0, api.ErrLarge))
	is(t, "Read", all(node.Read("x\n"+text)), all([]api.Step{}, 0, api.ErrLarge))
	l[7].Node += "a"
	is(t, "Text", all(node.Text(l)), all("", api.ErrLarge))
	l[9].At = -1
	is(t, "Check, ahead of a long text", all(node.Text(l)), all("", api.ErrArg))
}
