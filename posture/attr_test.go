package posture_test

import (
	"fmt"
	"slices"
	"strings"
	"testing"

	"holloway/api"
	"holloway/posture"
)

// wrongAttrs are wrong attributes, in the order of their errors.
func wrongAttrs() []struct {
	name string
	a    api.Attr
	e    api.Errno
} {
	type wrong = struct {
		name string
		a    api.Attr
		e    api.Errno
	}
	var out []wrong
	add := func(name string, a api.Attr, e api.Errno) { out = append(out, wrong{name, a, e}) }
	for _, kind := range wrongNumbers(api.AttrNumber, api.AttrVersion) {
		add("kind", api.Attr{Kind: kind}, api.ErrKind)
		add("kind, ahead of all else", api.Attr{Kind: kind, Number: 1 << 40, Words: "\n", Version: [4]int{-1}}, api.ErrKind)
	}
	for _, n := range wrongNumbers(-100_000_000, 100_000_000) {
		add("a number", api.Attr{Kind: api.AttrNumber, Number: n}, api.ErrArg)
		add("a number, ahead of words", api.Attr{Kind: api.AttrNumber, Number: n, Words: "a"}, api.ErrArg)
	}
	for _, n := range wrongNumbers(0, 1) {
		add("a flag", api.Attr{Kind: api.AttrFlag, Number: n}, api.ErrArg)
		add("a flag, ahead of a version", api.Attr{Kind: api.AttrFlag, Number: n, Version: [4]int{1}}, api.ErrArg)
	}
	for _, n := range []int{1, -1, 1 << 62, -1 << 63} {
		add("words with a number", api.Attr{Kind: api.AttrWords, Number: n, Words: "a"}, api.ErrForm)
		add("a version with a number", api.Attr{Kind: api.AttrVersion, Number: n}, api.ErrForm)
		add("a version with a number, ahead of its numbers", api.Attr{Kind: api.AttrVersion, Number: n, Version: [4]int{-1}}, api.ErrForm)
	}
	for _, s := range []string{strings.Repeat("a", api.MaxWords+1), "\x1f", "a\x7f", "\n", "a\tb", "é", "\x80", "\xff", "\x00"} {
		add("words", api.Attr{Kind: api.AttrWords, Words: s}, api.ErrForm)
	}
	for _, s := range []string{"a", " ", "\xff"} {
		add("a number with words", api.Attr{Kind: api.AttrNumber, Words: s}, api.ErrForm)
		add("a flag with words", api.Attr{Kind: api.AttrFlag, Words: s}, api.ErrForm)
		add("a version with words", api.Attr{Kind: api.AttrVersion, Words: s}, api.ErrForm)
		add("a version with words, ahead of its numbers", api.Attr{Kind: api.AttrVersion, Words: s, Version: [4]int{-1}}, api.ErrForm)
	}
	for i := range api.MaxParts {
		for _, n := range wrongNumbers(0, api.MaxPart) {
			a := api.Attr{Kind: api.AttrVersion}
			a.Version[i] = n
			add("a version", a, api.ErrArg)
		}
		for _, kind := range []int{api.AttrNumber, api.AttrWords, api.AttrFlag} {
			a := api.Attr{Kind: kind}
			a.Version[i] = 1
			add("with a version", a, api.ErrForm)
			a.Version[i] = -1
			add("with a wrong version", a, api.ErrForm)
		}
	}
	return out
}

// rightAttrs are right ones of each kind, rising.
func rightAttrs() [][]api.Attr {
	kind := func(s string) []api.Attr { return parts(s, func(w []string) api.Attr { return attr(w[0]) }) }
	out := [][]api.Attr{
		kind("-100000000; -99999999; -1; 0; 1; 2; 10; 100000000"),
		kind("''; '!'; '10'; '9'; 'A'; 'B'; 'a'; 'ab'; 'b'; '~'"),
		kind("no; yes"),
		kind("0.0.0.0; 0.0.0.1; 0.0.0.1000000; 0.0.1.0; 0.0.1.1; 0.1.0.0; 0.9.9.9; 1.0.0.0; 1.0.0.7; 1.2.0.0; 1.10.0.0; 2.0.0.0; 10.0.0.0; 1000000.1000000.1000000.1000000"),
	}
	word := func(s string) api.Attr { return api.Attr{Kind: api.AttrWords, Words: s} }
	out[1] = slices.Insert(out[1], 1, word(" "), word("  "))
	out[1] = append(out[1], word(strings.Repeat("~", api.MaxWords)))
	return out
}

// P7.1, Z3, Z4, Z6
func TestOrder(t *testing.T) {
	kinds := rightAttrs()
	for i, l := range kinds {
		for k, m := range kinds {
			for x, a := range l {
				for y, b := range m {
					want := all(0, false, api.OK)
					if i == k {
						want = all(min(1, max(-1, x-y)), true, api.OK)
					}
					is(t, fmt.Sprint("Order ", a, b), all(posture.Order(a, b)), want)
				}
			}
		}
	}
	for _, w := range wrongAttrs() {
		for _, l := range kinds {
			is(t, w.name, all(posture.Order(w.a, l[0])), all(0, false, w.e))
			is(t, w.name, all(posture.Order(l[0], w.a)), all(0, false, w.e))
		}
		for _, v := range wrongAttrs() {
			is(t, w.name+", then "+v.name, all(posture.Order(w.a, v.a)), all(0, false, w.e))
		}
	}
}
