package name_test

import (
	"cmp"
	"fmt"
	"math/rand"
	"reflect"
	"slices"
	"strconv"
	"strings"
	"testing"

	"holloway/addr"
	"holloway/api"
)

// is compares two values by what is shown of them, so that nil and empty lists are the same (Z5).
func is(t *testing.T, name string, got, want any) {
	t.Helper()
	if reflect.DeepEqual(got, want) {
		return
	}
	if g, w := fmt.Sprintf("%+v", got), fmt.Sprintf("%+v", want); g != w {
		t.Errorf("%s: got %s, want %s", name, g, w)
	}
}

// all makes one value of the results of a call.
func all(results ...any) []any { return results }

// words are those of a string with blanks between.
func words(s string) []string { return strings.Fields(s) }

// repeat makes a list of n parts.
func repeat[T any](n int, part func(i int) T) []T {
	var out []T
	for i := range n {
		out = append(out, part(i))
	}
	return out
}

// parts makes a list of a string with `; ` between the parts, each one of words.
func parts[T any](s string, part func(w []string) T) []T {
	var out []T
	for line := range strings.SplitSeq(s, ";") {
		if w := words(line); len(w) > 0 {
			out = append(out, part(w))
		}
	}
	return out
}

// key is a key for a number; they rise.
func key(i int) string { return fmt.Sprintf("k%04d", i) }

// lines makes a text of lines with `; ` between.
func lines(s string) string { return strings.ReplaceAll(s, "; ", "\n") + "\n" }

// number reads a number for a test; it stops the test if there is none.
func number(s string) int {
	n, err := strconv.Atoi(s)
	if err != nil {
		panic(s)
	}
	return n
}

// ip reads an address for a test; it stops the test if there is none.
func ip(s string) api.Addr {
	a, e := addr.Loose(s)
	if e != api.OK {
		panic(s)
	}
	return a
}

// wishes makes wishes of a node, a moment, and the words of a name each.
func wishes(s string) []api.Wish {
	return parts(s, func(w []string) api.Wish {
		return api.Wish{Node: w[0], Joined: number(w[1]), Name: strings.Join(w[2:], " ")}
	})
}

// called says what nodes are called: a node and a label each.
func called(s string) []api.Called {
	return parts(s, func(w []string) api.Called { return api.Called{Node: w[0], Label: w[1]} })
}

// nodes makes nodes of a key, and addresses each.
func nodes(s string) []api.Node {
	return parts(s, func(w []string) api.Node {
		n := api.Node{Key: w[0]}
		for _, a := range w[1:] {
			n.Addrs = append(n.Addrs, ip(a))
		}
		return n
	})
}

// record makes a record of a name, the word of a kind, a life and what it has; it stops the test if there is no such kind.
func record(w []string) api.Record {
	r := api.Record{Name: w[0], Life: number(w[2])}
	has := strings.Join(w[3:], " ")
	switch w[1] {
	case "a":
		r.Kind, r.Addr = api.RecordA, ip(has)
	case "aaaa":
		r.Kind, r.Addr = api.RecordAAAA, ip(has)
	case "alias":
		r.Kind, r.To = api.RecordAlias, has
	case "back":
		r.Kind, r.To = api.RecordBack, has
	case "words":
		r.Kind, r.Words = api.RecordWords, has
	default:
		panic(w[1])
	}
	return r
}

// records makes records of a string with `; ` between.
func records(s string) []api.Record { return parts(s, record) }

func zone(root, s string) api.Zone { return api.Zone{Root: root, Records: records(s)} }

// splits makes splits of a suffix (`-` is the empty one), and servers each.
func splits(s string) []api.Split {
	return parts(s, func(w []string) api.Split {
		return api.Split{Suffix: strings.TrimPrefix(w[0], "-"), Servers: w[1:]}
	})
}

// long is a domain name of so many bytes, at least two more than those of its ending.
func long(size int, ending string) string {
	for len(ending) < size {
		n := size - len(ending) - 1
		if n > api.MaxLabel {
			n = api.MaxLabel - 3
		}
		ending = strings.Repeat("a", n) + "." + ending
	}
	return ending
}

// A spoiler makes a value wrong, with an error.
type spoiler[T any] struct {
	name string
	do   func(x *T)
	e    api.Errno
}

// checked spoils each part of a list that is right, also ahead of other errors of this part, and of a later one. (The spoilers are in the order of their errors; again is the error of a part that is there twice.)
func checked[T any](t *testing.T, right []T, check func(l []T) api.Errno, again api.Errno, spoilers []spoiler[T]) {
	t.Helper()
	is(t, "right", check(right), api.OK)
	is(t, "none", check(nil), api.OK)
	for i := range right {
		for k, s := range spoilers {
			l := slices.Clone(right)
			s.do(&l[i])
			is(t, fmt.Sprint(i, ": ", s.name), check(l), s.e)
			for _, later := range spoilers[k:] {
				l = slices.Concat(right, right)
				later.do(&l[i])
				s.do(&l[i])
				is(t, fmt.Sprint(i, ": ", s.name, ", then ", later.name), check(l), s.e)
				l[i] = right[i]
				s.do(&l[i])
				later.do(&l[len(right)+i])
				is(t, fmt.Sprint(i, ": ", s.name, ", and one with ", later.name), check(l), s.e)
			}
		}
	}
	for i := 1; i < len(right); i++ {
		l := slices.Clone(right)
		l[i-1], l[i] = l[i], l[i-1]
		is(t, fmt.Sprint(i, ": exchanged"), check(l), api.ErrOrder)
		l[i] = l[i-1]
		is(t, fmt.Sprint(i, ": the same twice"), check(l), again)
	}
}

// A step mends the first thing that is wrong with a value, which had an error.
type step[T any] struct {
	e    api.Errno
	mend func(x *T)
}

// ladder looks at the errors of a value that is wrong throughout, and is mended step by step.
func ladder[T any](t *testing.T, name string, x T, check func(x T) api.Errno, steps ...step[T]) {
	t.Helper()
	for i, s := range steps {
		is(t, fmt.Sprint(name, ", step ", i), check(x), s.e)
		s.mend(&x)
	}
	is(t, name+", mended", check(x), api.OK)
}

// chance makes random values.
type chance struct{ *rand.Rand }

func newChance(seed int64) chance { return chance{rand.New(rand.NewSource(seed))} }

func pick[T any](r chance, l []T) T { return l[r.Intn(len(l))] }

// some are some of a list, in its order.
func some[T any](r chance, l []T) []T {
	var out []T
	for _, x := range l {
		if r.Intn(3) == 0 {
			out = append(out, x)
		}
	}
	return out
}

// of is a string of at most so many signs of others.
func (r chance) of(most int, signs string) string {
	var b []byte
	for range r.Intn(most + 1) {
		b = append(b, signs[r.Intn(len(signs))])
	}
	return string(b)
}

// below is a domain name with up to two labels ahead of another one.
func (r chance) below(zone string) string {
	for range r.Intn(3) {
		zone = pick(r, words("a a a b _a")) + "." + zone
	}
	return zone
}

// domain is one of few domain names.
func (r chance) domain() string { return r.below(pick(r, words("x x a.x a.x y b"))) }

var kinds = []int{api.RecordA, api.RecordAlias, api.RecordBack, api.RecordWords, api.RecordAAAA}

// record is a random record that is right.
func (r chance) record(name string) api.Record {
	x := api.Record{Name: name, Kind: pick(r, append(kinds, api.RecordAlias, api.RecordAlias)), Life: r.Intn(8)}
	switch x.Kind {
	case api.RecordA:
		x.Addr.Lo = uint64(r.Intn(3))
	case api.RecordAAAA:
		x.Addr = api.Addr{Six: true, Hi: uint64(r.Intn(2)), Lo: uint64(r.Intn(2))}
	case api.RecordWords:
		x.Words = pick(r, []string{"", "a", "b c", "é"})
	default:
		x.To = r.domain()
	}
	return x
}

// order compares records as those of zones are ordered.
func order(x, y api.Record) int {
	return cmp.Or(strings.Compare(x.Name, y.Name), x.Kind-y.Kind, cmp.Compare(x.Addr.Hi, y.Addr.Hi), cmp.Compare(x.Addr.Lo, y.Addr.Lo), strings.Compare(x.To, y.To), strings.Compare(x.Words, y.Words))
}

// zone is a random zone that is right.
func (r chance) zone(root string) api.Zone {
	all := repeat(r.Intn(12), func(int) api.Record { return r.record(pick(r, []string{"", "", "*."}) + r.below(root)) })
	slices.SortFunc(all, order)
	z := api.Zone{Root: root}
	for _, x := range all {
		if n := len(z.Records); n > 0 {
			before := z.Records[n-1]
			alias := x.Kind == api.RecordAlias || before.Kind == api.RecordAlias
			if order(before, x) == 0 || alias && before.Name == x.Name {
				continue
			}
		}
		z.Records = append(z.Records, x)
	}
	return z
}

// net says in a random way how names are found.
func (r chance) net() api.Net {
	n := api.Net{Search: some(r, words("x a.x y b.y")), Dots: r.Intn(3)}
	for _, suffix := range some(r, append([]string{""}, words("a.x b.a.x x y")...)) {
		servers := words("sa sb sc sd")
		r.Shuffle(4, func(i, k int) { servers[i], servers[k] = servers[k], servers[i] })
		n.Splits = append(n.Splits, api.Split{Suffix: suffix, Servers: servers[:1+r.Intn(4)]})
	}
	for _, server := range some(r, words("sa sa sb sb sc sc")) {
		if len(n.Sources) > 0 && n.Sources[len(n.Sources)-1].Server == server {
			continue
		}
		s := api.Source{Server: server}
		for _, root := range some(r, words("a.x b b.a.x x y")) {
			s.Zones = append(s.Zones, r.zone(root))
		}
		n.Sources = append(n.Sources, s)
	}
	return n
}

// message is a random message that is right.
func (r chance) message() api.Message {
	m := api.Message{Id: r.Intn(1 << 16), Reply: r.Intn(2) == 0, Code: r.Intn(16)}
	m.Asked = repeat(r.Intn(4), func(int) api.Question { return api.Question{Name: r.domain(), Kind: pick(r, kinds)} })
	m.Got = repeat(r.Intn(6), func(int) api.Record { return r.record(r.domain()) })
	return m
}
