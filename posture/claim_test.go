package posture_test

import (
	"fmt"
	"slices"
	"testing"

	"holloway/api"
	"holloway/posture"
)

var last = fmt.Sprint(api.End - 1)

// many are so many claims, rising.
func many(n int) []api.Claim {
	return repeat(n, func(i int) api.Claim { return api.Claim{At: i / 2, Node: "n", Name: key(i), Value: attr("yes")} })
}

// P7.1, Z4, Z6
func TestCheckClaims(t *testing.T) {
	right := claims("0 na a yes; 0 na b 5; 0 na- a 'x'; 0 nb a 1.2.3.4; 1 n true -7; 1 n v1 'x'; 2 a a no; " + last + " a a no")
	spoilers := []spoiler[api.Claim]{
		{"below 0", func(x *api.Claim) { x.At = -1 }, api.ErrArg},
		{"the end", func(x *api.Claim) { x.At = api.End }, api.ErrArg},
		{"the least int", func(x *api.Claim) { x.At = -1 << 63 }, api.ErrArg},
		{"the greatest int", func(x *api.Claim) { x.At = 1<<63 - 1 }, api.ErrArg},
	}
	for _, s := range notKeys {
		spoilers = append(spoilers, spoiler[api.Claim]{"a node", func(x *api.Claim) { x.Node = s }, api.ErrName})
	}
	for _, s := range notKeys {
		spoilers = append(spoilers, spoiler[api.Claim]{"a name", func(x *api.Claim) { x.Name = s }, api.ErrName})
	}
	for _, w := range wrongAttrs() {
		// Errors of one attribute are held against each other elsewhere.
		spoilers = append(spoilers[:min(len(spoilers), 30)], spoiler[api.Claim]{w.name, func(x *api.Claim) { x.Value = w.a }, w.e})
		checked(t, right, posture.CheckClaims, len(spoilers), spoilers)
	}
	is(t, "full", posture.CheckClaims(many(api.MaxClaims)), api.OK)
	is(t, "too many", posture.CheckClaims(many(api.MaxClaims+1)), api.ErrLarge)
	is(t, "too many wrong ones", posture.CheckClaims(make([]api.Claim, api.MaxClaims+1)), api.ErrLarge)
	for _, l := range rightAttrs() {
		for _, a := range l {
			is(t, "a right one", posture.CheckClaims([]api.Claim{{Node: "n", Name: "a", Value: a}}), api.OK)
		}
	}
}

// P7.1
func TestMerge(t *testing.T) {
	for _, c := range []struct {
		a, b, want string
		e          api.Errno
	}{
		{"", "", "", api.OK},
		{"5 n a yes", "", "5 n a yes", api.OK},
		{"5 n a yes", "5 n a yes", "5 n a yes", api.OK},
		{"5 n a yes; 7 n a no", "5 n b yes; 6 n a no; 7 m a no; 9 n a 5", "5 n a yes; 5 n b yes; 6 n a no; 7 m a no; 7 n a no; 9 n a 5", api.OK},
		{"5 n a yes; 7 n a no", "4 z z 1; 5 n a yes", "4 z z 1; 5 n a yes; 7 n a no", api.OK},
		{"5 n a yes", "5 n a no", "", api.ErrConflict},
		{"5 n a 1", "5 n a yes", "", api.ErrConflict},
		{"5 n a 1.0.0.1", "4 n a 7; 5 n a 1.0.0.0; 6 n a 7", "", api.ErrConflict},
		{"5 n a ''", "5 n a 'x'", "", api.ErrConflict},
		{"5 n a 7; 4 n a 7", "1 N a 5", "", api.ErrOrder},
		{"4 n a 7", "1 N a 5", "", api.ErrName},
	} {
		is(t, c.a+" with "+c.b, all(posture.Merge(claims(c.a), claims(c.b))), all(claims(c.want), c.e))
		if c.e == api.OK || c.e == api.ErrConflict {
			is(t, c.b+" with "+c.a, all(posture.Merge(claims(c.b), claims(c.a))), all(claims(c.want), c.e))
		}
	}
	full := many(api.MaxClaims)
	more := many(api.MaxClaims + 1)[1:]
	is(t, "full", all(posture.Merge(full[:1_000], full[900:])), all(full, api.OK))
	is(t, "the same ones", all(posture.Merge(full, full)), all(full, api.OK))
	is(t, "too many", all(posture.Merge(full, more)), all([]api.Claim{}, api.ErrLarge))
	more[5].Value = attr("no")
	is(t, "too many, and a conflict", all(posture.Merge(full, more)), all([]api.Claim{}, api.ErrConflict))
}

// P7.1: random claims; in whatever order they are merged.
func TestMergeOfMany(t *testing.T) {
	r := newChance(1)
	merge := func(a, b []api.Claim) []api.Claim {
		l, e := posture.Merge(a, b)
		is(t, "Merge", e, api.OK)
		return l
	}
	for range 300 {
		l := r.claims()
		lists := repeat(3, func(int) []api.Claim { return some(r, l) })
		var want []api.Claim
		for _, x := range l {
			if slices.ContainsFunc(lists, func(m []api.Claim) bool { return slices.Contains(m, x) }) {
				want = append(want, x)
			}
		}
		is(t, "Merge", merge(merge(lists[0], lists[1]), lists[2]), want)
		is(t, "Merge", merge(lists[2], merge(lists[1], lists[0])), want)
	}
}

// P7.1, and the document's example.
func TestValueAt(t *testing.T) {
	l := claims("0 n b 'x'; 50 m a 7; 50 n a yes; 50 n b 'y'; 60 n a no; 200 n a 5; 300 n a 1.2.0.0; " + last + " n a 8")
	for _, c := range []struct {
		node, name string
		fresh, at  int
		want       string
	}{
		{"n", "a", 100, 49, ""}, {"n", "a", 100, 50, "yes"}, {"n", "a", 100, 59, "yes"}, {"n", "a", 100, 60, "no"},
		{"n", "a", 100, 159, "no"}, {"n", "a", 100, 160, ""}, {"n", "a", 100, 199, ""}, {"n", "a", 100, 200, "5"}, {"n", "a", 100, 299, "5"}, {"n", "a", 100, 300, "1.2.0.0"},
		{"n", "b", 100, 0, "'x'"}, {"n", "b", 50, 49, "'x'"}, {"n", "b", 49, 49, ""}, {"n", "b", 100, 149, "'y'"}, {"n", "b", 100, 150, ""},
		{"m", "a", 100, 149, "7"}, {"m", "a", 100, 150, ""}, {"m", "b", 100, 60, ""}, {"k", "a", 100, 60, ""}, {"n", "c", 100, 60, ""},
		// The last claim counts: where it is too old, earlier ones are, too.
		{"n", "a", 1, 50, "yes"}, {"n", "a", 1, 51, ""}, {"n", "a", 1, 60, "no"}, {"n", "a", 1, 61, ""},
		{"n", "b", api.End, api.End - 1, "'y'"}, {"n", "a", 1, api.End - 1, "8"}, {"n", "a", api.End, api.End - 2, "1.2.0.0"},
	} {
		want := all(api.Attr{}, false, api.OK)
		if c.want != "" {
			want = all(attr(c.want), true, api.OK)
		}
		is(t, fmt.Sprint(c), all(posture.ValueAt(l, c.fresh, c.node, c.name, c.at)), want)
	}
	example := claims("50 n a yes")
	is(t, "the example", all(posture.ValueAt(example, 100, "n", "a", 149)), all(attr("yes"), true, api.OK))
	is(t, "the example", all(posture.ValueAt(example, 100, "n", "a", 150)), all(api.Attr{}, false, api.OK))
	for name, a := range map[string]api.Attr{"true": attr("5"), "v1": attr("no")} {
		x := []api.Claim{{Node: "n", Name: name, Value: a}}
		is(t, "a name that no condition has", all(posture.ValueAt(x, 9, "n", name, 5)), all(a, true, api.OK))
	}
}

// valueAt tells once more what is known of an attribute.
func valueAt(l []api.Claim, fresh int, node, name string, at int) api.Attr {
	for _, x := range slices.Backward(l) {
		if x.At > at || x.Node != node || x.Name != name {
			continue
		}
		if at-x.At < fresh {
			return x.Value
		}
		return api.Attr{}
	}
	return api.Attr{}
}

// P7.1
func TestValueAtOfMany(t *testing.T) {
	r := newChance(2)
	for range 100 {
		l, fresh := r.claims(), 1+r.Intn(20)
		for at := range until + 20 {
			for _, node := range someNodes {
				for _, name := range someNames {
					want := valueAt(l, fresh, node, name, at)
					is(t, "ValueAt", all(posture.ValueAt(l, fresh, node, name, at)), all(want, want.Kind != 0, api.OK))
				}
			}
		}
	}
}

// P7.1, Z4, Z6
func TestErrorsOfValueAt(t *testing.T) {
	ladder(t, "ValueAt",
		step{api.ErrOrder, func(in *input) { in.claims = nil }},
		step{api.ErrArg, func(in *input) { in.fresh = 1 }},
		step{api.ErrName, func(in *input) { in.node = "n" }},
		step{api.ErrName, func(in *input) { in.name = "a" }},
		step{api.ErrArg, func(in *input) { in.at = 0 }},
	)
	for _, n := range wrongNumbers(1, api.End) {
		is(t, "fresh", all(posture.ValueAt(nil, n, "n", "a", 0)), all(api.Attr{}, false, api.ErrArg))
	}
	for _, n := range wrongNumbers(0, api.End-1) {
		is(t, "the moment", all(posture.ValueAt(nil, 1, "n", "a", n)), all(api.Attr{}, false, api.ErrArg))
	}
	for _, s := range notKeys {
		is(t, "the node", all(posture.ValueAt(nil, 1, s, "a", 0)), all(api.Attr{}, false, api.ErrName))
		is(t, "the name", all(posture.ValueAt(nil, 1, "n", s, 0)), all(api.Attr{}, false, api.ErrName))
	}
}
