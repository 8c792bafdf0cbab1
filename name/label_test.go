package name_test

import (
	"fmt"
	"math"
	"regexp"
	"slices"
	"strconv"
	"strings"
	"testing"

	"holloway/api"
	"holloway/name"
)

// P6.2
func TestLabel(t *testing.T) {
	a62 := strings.Repeat("a", 62)
	for s, want := range map[string]string{
		"My Mac": "my-mac", "--": "node", "": "node", "x  y!": "x-y", "node": "node", "AZaz09": "azaz09", "a-b": "a-b", "a--b": "a-b", "a_b": "a-b", "_a": "a", "a.b": "a-b", "-a-": "a", " a ": "a", "!": "node",
		"a -_. b": "a-b", "a`b{c@d[e/f:g": "a-b-c-d-e-f-g", "é": "node", "Bücher": "b-cher", "a\xffb": "a-b", "a\x00": "a",
		// The sign of the kelvin is no letter that becomes a small one.
		"a\u212ab": "a-b",
		// All is cut first, and then `-` goes: at its place at the beginning there is a byte less.
		a62 + "bc": a62 + "b", a62 + "!b": a62, a62 + "b!c": a62 + "b", "!" + a62 + "b": a62, "!!" + a62 + "b": a62, strings.Repeat("a", 61) + "!!b!": strings.Repeat("a", 61) + "-b",
		strings.Repeat("!", 100) + "a": "a", strings.Repeat("a!", 40): strings.Repeat("a-", 31) + "a",
	} {
		is(t, s, name.Label(s), want)
	}
	row := regexp.MustCompile(`[^a-z0-9]+`)
	small := func(r rune) rune {
		if 'A' <= r && r <= 'Z' {
			return r + 32
		}
		return r
	}
	r := newChance(3)
	for range 5_000 {
		s := r.of(90, "abzAZ09-_ .\n")
		want := row.ReplaceAllString(strings.Map(small, s), "-")
		want = strings.Trim(want[:min(len(want), 63)], "-")
		if want == "" {
			want = "node"
		}
		is(t, s, name.Label(s), want)
		is(t, "is a label: "+s, all(name.CheckDomain(name.Label(s)), strings.Contains(name.Label(s), ".")), all(api.OK, false))
	}
}

// P6.2
func TestCall(t *testing.T) {
	a63 := strings.Repeat("a", 63)
	for _, c := range []struct{ wishes, want string }{
		{"", ""},
		// The example of the chapter.
		{"n1 5 My Mac; n2 6 my-mac", "n1 my-mac; n2 my-mac-1"},
		{"n1 6 My Mac; n2 5 my-mac", "n1 my-mac-1; n2 my-mac"},
		// Of those that joined at once the least node is the first one.
		{"a 5 x; b 5 x; c 4 x; d 5 x", "a x-1; b x-2; c x; d x-3"},
		// A number that somebody has is passed over, and one that is free is taken.
		{"a 1 x; b 2 x 1; c 3 x; d 4 x", "a x; b x-1; c x-2; d x-3"},
		{"a 1 x; b 2 x 2; c 3 x; d 4 x", "a x; b x-2; c x-1; d x-3"},
		{"a 1 x; b 2 x; c 3 x-1; d 4 x-1", "a x; b x-1; c x-1-1; d x-1-2"},
		{"a 1; b 2 !; c 3 node", "a node; b node-1; c node-2"},
		// All is at most 63 bytes long; what is left of the label can end with `-`.
		{"a 1 " + a63 + "; b 2 " + a63 + "b; c 3 " + a63[2:], "a " + a63 + "; b " + a63[2:] + "-1; c " + a63[2:]},
		{"a 1 " + a63[3:] + "!bb; b 2 " + a63[3:] + "!bb", "a " + a63[3:] + "-bb; b " + a63[3:] + "--1"},
		{"a 1 " + a63[2:] + "!b; b 2 " + a63[2:] + "!b", "a " + a63[2:] + "-b; b " + a63[2:] + "-1"},
	} {
		is(t, c.wishes, all(name.Call(wishes(c.wishes))), all(called(c.want), api.OK))
	}
	full := repeat(api.MaxNodes, func(i int) api.Wish { return api.Wish{Node: key(i), Name: a63, Joined: 1_000 - i} })
	l, e := name.Call(full)
	is(t, "full", all(len(l), e, l[499], l[498], l[490], l[489], l[400], l[399], l[0]), all(500, api.OK,
		api.Called{Node: "k0499", Label: a63}, api.Called{Node: "k0498", Label: a63[2:] + "-1"}, api.Called{Node: "k0490", Label: a63[2:] + "-9"}, api.Called{Node: "k0489", Label: a63[3:] + "-10"}, api.Called{Node: "k0400", Label: a63[3:] + "-99"}, api.Called{Node: "k0399", Label: a63[4:] + "-100"}, api.Called{Node: "k0000", Label: a63[4:] + "-499"}))
}

// P6.2, Z4
func TestWishes(t *testing.T) {
	check := func(l []api.Wish) api.Errno { _, e := name.Call(l); return e }
	right := []api.Wish{{Node: "a"}, {Node: "a-"}, {Node: "a0", Joined: api.End - 1}, {Node: "b", Name: strings.Repeat("\xff", 200)}}
	checked(t, right, check, api.ErrOrder, []spoiler[api.Wish]{
		{"no node", func(x *api.Wish) { x.Node = "" }, api.ErrName},
		{"no key", func(x *api.Wish) { x.Node = "a." }, api.ErrName},
		{"a long name", func(x *api.Wish) { x.Name = strings.Repeat("a", 201) }, api.ErrForm},
		{"joined before all", func(x *api.Wish) { x.Joined = -1 }, api.ErrArg},
		{"joined behind all", func(x *api.Wish) { x.Joined = api.End }, api.ErrArg},
		{"the least int", func(x *api.Wish) { x.Joined = math.MinInt }, api.ErrArg},
		{"the greatest int", func(x *api.Wish) { x.Joined = math.MaxInt }, api.ErrArg},
	})
	is(t, "order ahead of form", check([]api.Wish{{Node: "b"}, {Node: "a", Name: strings.Repeat("a", 201)}}), api.ErrOrder)
	is(t, "too many", check(make([]api.Wish, api.MaxNodes+1)), api.ErrLarge)
	is(t, "too many that are right", check(repeat(api.MaxNodes+1, func(i int) api.Wish { return api.Wish{Node: key(i)} })), api.ErrLarge)
}

// calledOf is a second telling of Call, by node: always the one of those that are left that joined first is called next.
func calledOf(l []api.Wish) map[string]string {
	out, taken := map[string]string{}, map[string]bool{}
	for len(out) < len(l) {
		var next *api.Wish
		for i := range l {
			if _, has := out[l[i].Node]; !has && (next == nil || l[i].Joined < next.Joined) {
				next = &l[i]
			}
		}
		label := name.Label(next.Name)
		for n := 1; taken[label]; n++ {
			end := "-" + strconv.Itoa(n)
			label = name.Label(next.Name)
			for len(label)+len(end) > 63 {
				label = label[:len(label)-1]
			}
			label += end
		}
		taken[label] = true
		out[next.Node] = label
	}
	return out
}

// P6.2: all labels differ, and a node that joins later changes none of those that were there.
func TestCalls(t *testing.T) {
	r := newChance(4)
	for range 1_000 {
		l := repeat(1+r.Intn(9), func(i int) api.Wish {
			return api.Wish{Node: key(i), Joined: r.Intn(6), Name: pick(r, []string{"x", "X!", "x 1", "x-1-1", "x 2", "y", strings.Repeat("x", 63), strings.Repeat("x", 61) + "-1", strings.Repeat("x", 60) + "  y"})}
		})
		got, e := name.Call(l)
		labels := map[string]string{}
		taken := map[string]bool{}
		for i, c := range got {
			is(t, "by node", c.Node, l[i].Node)
			is(t, "a label", all(name.CheckDomain(c.Label), strings.Contains(c.Label, ".")), all(api.OK, false))
			labels[c.Node] = c.Label
			taken[c.Label] = true
		}
		is(t, fmt.Sprint(l), all(labels, e, len(taken)), all(calledOf(l), api.OK, len(l)))
		last := slices.MaxFunc(l, func(x, y api.Wish) int { return (x.Joined-y.Joined)*2 + strings.Compare(x.Node, y.Node) })
		before, _ := name.Call(slices.DeleteFunc(slices.Clone(l), func(w api.Wish) bool { return w.Node == last.Node }))
		after := slices.DeleteFunc(slices.Clone(got), func(c api.Called) bool { return c.Node == last.Node })
		is(t, "later", after, before)
	}
}
