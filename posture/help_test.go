package posture_test

import (
	"cmp"
	"fmt"
	"math/rand"
	"reflect"
	"slices"
	"strconv"
	"strings"
	"testing"

	"holloway/api"
	"holloway/posture"
)

// is compares two values by what is shown of them, so that nil and empty lists are the same (Z5).
func is(t *testing.T, name string, got, want any) {
	t.Helper()
	if reflect.DeepEqual(got, want) {
		return
	}
	if g, w := fmt.Sprintf("%+v", got), fmt.Sprintf("%+v", want); g != w {
		t.Errorf("%s: got %s, want %s", name, g, w)
	}
}

// all makes one value of the results of a call.
func all(results ...any) []any { return results }

// words are those of a string with blanks between.
func words(s string) []string { return strings.Fields(s) }

// repeat makes a list of n parts.
func repeat[T any](n int, part func(i int) T) []T {
	var out []T
	for i := range n {
		out = append(out, part(i))
	}
	return out
}

// parts makes a list of a string with `; ` between the parts, each one of words.
func parts[T any](s string, part func(w []string) T) []T {
	var out []T
	for line := range strings.SplitSeq(s, ";") {
		if w := words(line); len(w) > 0 {
			out = append(out, part(w))
		}
	}
	return out
}

// key is a key for a number; they rise.
func key(i int) string { return fmt.Sprintf("k%04d", i) }

// number reads a number for a test; it stops the test if there is none.
func number(s string) int {
	n, err := strconv.Atoi(s)
	if err != nil {
		panic(s)
	}
	return n
}

func window(from, to int) api.Window { return api.Window{From: from, To: to} }

// attr makes an attribute, right or not: a number, `yes` or `no`, numbers with points between, or words with `'` at both ends.
func attr(s string) api.Attr {
	switch {
	case s == "yes":
		return api.Attr{Kind: api.AttrFlag, Number: 1}
	case s == "no":
		return api.Attr{Kind: api.AttrFlag}
	case strings.HasPrefix(s, "'"):
		return api.Attr{Kind: api.AttrWords, Words: strings.Trim(s, "'")}
	case strings.Contains(s, "."):
		a := api.Attr{Kind: api.AttrVersion}
		for i, n := range strings.Split(s, ".") {
			a.Version[i] = number(n)
		}
		return a
	}
	return api.Attr{Kind: api.AttrNumber, Number: number(s)}
}

// claims makes claims of a moment, a node, a name and an attribute each.
func claims(s string) []api.Claim {
	return parts(s, func(w []string) api.Claim {
		return api.Claim{At: number(w[0]), Node: w[1], Name: w[2], Value: attr(w[3])}
	})
}

// comparison makes one of a name, an operator and an attribute.
func comparison(s string) api.Cond {
	w := words(s)
	return api.Cond{Kind: api.CondIs, Name: w[0], Op: w[1], Value: attr(w[2])}
}

func not(c api.Cond) api.Cond       { return api.Cond{Kind: api.CondNot, Kids: []api.Cond{c}} }
func and(kids ...api.Cond) api.Cond { return api.Cond{Kind: api.CondAnd, Kids: kids} }
func or(kids ...api.Cond) api.Cond  { return api.Cond{Kind: api.CondOr, Kids: kids} }

// cond reads a condition for a test; it stops the test if there is none.
func cond(s string) api.Cond {
	c, _, e := posture.Parse(s)
	if e != api.OK {
		panic(s)
	}
	return c
}

// postures makes postures of a key and a condition each.
func postures(s string) []api.Posture {
	return parts(s, func(w []string) api.Posture {
		return api.Posture{Key: w[0], Cond: cond(strings.Join(w[1:], " "))}
	})
}

// accesses makes accesses of a posture, Need, Wait, Most and approvers each.
func accesses(s string) []api.Access {
	return parts(s, func(w []string) api.Access {
		return api.Access{Posture: w[0], Need: number(w[1]), Wait: number(w[2]), Most: number(w[3]), Approvers: w[4:]}
	})
}

// askings makes askings of a moment, a key, who asks, and `for` with a node, a posture and a time, `yes`, `no` or `stop` each; it stops the test if there is no such word.
func askings(s string) []api.Asking {
	return parts(s, func(w []string) api.Asking {
		x := api.Asking{At: number(w[0]), Key: w[1], By: w[2]}
		x.Kind = slices.Index(words("for yes no stop"), w[3]) + 1
		switch x.Kind {
		case 0:
			panic(w[3])
		case api.AskFor:
			x.Node, x.Posture, x.Long = w[4], w[5], number(w[6])
		}
		return x
	})
}

// facts makes facts of a node and a posture each.
func facts(s string) []api.Fact {
	return parts(s, func(w []string) api.Fact { return api.Fact{Node: w[0], Posture: w[1]} })
}

// A spoiler makes a value wrong, with an error.
type spoiler[T any] struct {
	name string
	do   func(x *T)
	e    api.Errno
}

// checked spoils each part of a list that is right, also ahead of other errors of this part, and of a later one. (The spoilers are in the order of their errors; the first ones, so many, come ahead of the order of the list.)
func checked[T any](t *testing.T, right []T, check func(l []T) api.Errno, ahead int, spoilers []spoiler[T]) {
	t.Helper()
	is(t, "right", check(right), api.OK)
	is(t, "none", check(nil), api.OK)
	for i := range right {
		for k, s := range spoilers {
			l := slices.Clone(right)
			s.do(&l[i])
			is(t, fmt.Sprint(i, ": ", s.name), check(l), s.e)
			for _, later := range spoilers[k:] {
				l = slices.Concat(right, right)
				later.do(&l[i])
				s.do(&l[i])
				is(t, fmt.Sprint(i, ": ", s.name, ", then ", later.name), check(l), s.e)
				l[i] = right[i]
				s.do(&l[i])
				later.do(&l[len(right)+i])
				is(t, fmt.Sprint(i, ": ", s.name, ", and one with ", later.name), check(l), s.e)
			}
		}
	}
	for i := 1; i < len(right); i++ {
		l := slices.Clone(right)
		l[i-1], l[i] = l[i], l[i-1]
		is(t, fmt.Sprint(i, ": exchanged"), check(l), api.ErrOrder)
		for k, s := range spoilers {
			l = slices.Clone(right)
			l[i] = l[i-1]
			is(t, fmt.Sprint(i, ": the same twice"), check(l), api.ErrOrder)
			s.do(&l[i])
			want := s.e
			if k >= ahead {
				want = api.ErrOrder
			}
			is(t, fmt.Sprint(i, ": out of order, and ", s.name), check(l), want)
		}
	}
}

// A step mends the first thing that is wrong with an input, which had an error.
type step struct {
	e    api.Errno
	mend func(in *input)
}

// ladder looks at the errors of a call with an input that is wrong throughout, and is mended step by step.
func ladder(t *testing.T, name string, steps ...step) {
	t.Helper()
	f := callOf(name)
	in := wrongInput()
	for i, s := range steps {
		is(t, fmt.Sprint(name, ", step ", i), errnoOf(f(in)), s.e)
		s.mend(&in)
	}
	is(t, name+", mended", errnoOf(f(in)), api.OK)
}

// wrongNumbers are out of a range.
func wrongNumbers(least, most int) []int {
	return []int{least - 1, most + 1, -1 << 63, 1<<63 - 1}
}

var tooLong = strings.Repeat("a", api.MaxName+1)

// notKeys are strings that are no keys.
var notKeys = []string{"", "A", "aA", "1", "-", "_a", "a b", " a", "a.b", "é", "a\n", tooLong}

// chance makes random values.
type chance struct{ *rand.Rand }

func newChance(seed int64) chance { return chance{rand.New(rand.NewSource(seed))} }

func pick[T any](r chance, l []T) T { return l[r.Intn(len(l))] }

// some are some of a list, in its order.
func some[T any](r chance, l []T) []T {
	var out []T
	for _, x := range l {
		if r.Intn(3) == 0 {
			out = append(out, x)
		}
	}
	return out
}

// What random values are made of; keys are in order.
var (
	someNames = words("a b c v")
	someNodes = words("na nb nc")
	someAttrs = parts("yes; no; 0; 1; -7; 'x'; 'y'; ''; 1.0.0.0; 1.2.0.0; 0.9.9.9", func(w []string) api.Attr { return attr(w[0]) })
	someUsers = words("ua ub uc ud")
	ops       = words("== != < <= > >=")
)

// until is behind the last random moment.
const until = 30

// attr is a random attribute; flags are more often.
func (r chance) attr() api.Attr { return pick(r, append(someAttrs, someAttrs[:2]...)) }

// cond is a random condition that is right, and at most so deep.
func (r chance) cond(deep int) api.Cond {
	kind := r.Intn(4) + 1
	if deep == 1 || r.Intn(3) == 0 || kind == api.CondIs {
		c := api.Cond{Kind: api.CondIs, Name: pick(r, someNames), Op: pick(r, ops), Value: r.attr()}
		if c.Value.Kind == api.AttrFlag {
			c.Op = pick(r, ops[:2])
		}
		return c
	}
	if kind == api.CondNot {
		return not(r.cond(deep - 1))
	}
	out := api.Cond{Kind: kind}
	for len(out.Kids) < 2 || r.Intn(3) == 0 {
		if kid := r.cond(deep - 1); kid.Kind != kind {
			out.Kids = append(out.Kids, kid)
		}
	}
	return out
}

// claims are random ones that are right.
func (r chance) claims() []api.Claim {
	var out []api.Claim
	for at := range until {
		if r.Intn(3) > 0 {
			continue
		}
		for _, node := range someNodes {
			for _, name := range some(r, someNames) {
				out = append(out, api.Claim{At: at, Node: node, Name: name, Value: r.attr()})
			}
		}
	}
	return out
}

func (r chance) postures() []api.Posture {
	var out []api.Posture
	for _, k := range some(r, words("pa pb pc pd")) {
		out = append(out, api.Posture{Key: k, Cond: r.cond(3)})
	}
	return out
}

func (r chance) accesses() []api.Access {
	var out []api.Access
	for _, p := range words("pa pb pc") {
		if approvers := some(r, someUsers); len(approvers) > 0 {
			out = append(out, api.Access{Posture: p, Approvers: approvers, Need: 1 + r.Intn(len(approvers)), Wait: 1 + r.Intn(20), Most: 1 + r.Intn(20)})
		}
	}
	return out
}

// askings are random ones that are right; most kinds are often not possible.
func (r chance) askings() []api.Asking {
	out := repeat(r.Intn(40), func(int) api.Asking {
		x := api.Asking{At: r.Intn(until), Key: pick(r, words("qa qb qc qd qe")), By: pick(r, someUsers), Kind: pick(r, []int{1, 2, 2, 2, 2, 3, 4, 4})}
		if x.Kind == api.AskFor {
			x.Node, x.Posture, x.Long = pick(r, someNodes), pick(r, words("pa pb pc")), 1+r.Intn(12)
		}
		return x
	})
	order := func(x, y api.Asking) int {
		return cmp.Or(cmp.Compare(x.At, y.At), strings.Compare(x.Key, y.Key), strings.Compare(x.By, y.By))
	}
	slices.SortStableFunc(out, order)
	return slices.CompactFunc(out, func(x, y api.Asking) bool { return order(x, y) == 0 })
}

func (r chance) facts() []api.Fact {
	var out []api.Fact
	for _, node := range someNodes {
		for _, p := range some(r, words("pa pb pc")) {
			out = append(out, api.Fact{Node: node, Posture: p})
		}
	}
	return out
}
