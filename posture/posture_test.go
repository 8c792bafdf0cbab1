package posture_test

import (
	"fmt"
	"slices"
	"testing"

	"holloway/api"
	"holloway/posture"
)

// P7.5, Z4
func TestCheckPostures(t *testing.T) {
	right := postures("a a == 5; a- !b; a0 c || d; b a == 5")
	var spoilers []spoiler[api.Posture]
	for _, s := range notKeys {
		spoilers = append(spoilers, spoiler[api.Posture]{"a key", func(x *api.Posture) { x.Key = s }, api.ErrName})
	}
	ahead := len(spoilers)
	for _, c := range []spoiler[api.Posture]{
		{"no condition", func(x *api.Posture) { x.Cond = api.Cond{} }, api.ErrKind},
		{"a deep one", func(x *api.Posture) { x.Cond = nots(api.MaxDeep + 1) }, api.ErrLarge},
		{"an operator", func(x *api.Posture) { x.Cond = comparison("a = 5") }, api.ErrType},
	} {
		checked(t, right, posture.CheckPostures, ahead, append(slices.Clone(spoilers), c))
	}
	many := func(n int) []api.Posture {
		return repeat(n, func(i int) api.Posture { return api.Posture{Key: key(i), Cond: leaves(api.MaxLeaves, api.CondOr)} })
	}
	is(t, "full", posture.CheckPostures(many(api.MaxPostures)), api.OK)
	is(t, "too many", posture.CheckPostures(many(api.MaxPostures+1)), api.ErrLarge)
	is(t, "too many wrong ones", posture.CheckPostures(make([]api.Posture, api.MaxPostures+1)), api.ErrLarge)
}

// P7.5
func TestFacts(t *testing.T) {
	p := postures("big size >= 5; both disk && size > 1; not !disk; safe disk")
	l := claims("10 na disk yes; 10 nb disk no; 20 na size 7; 20 nb size 1; 30 nb size 5; 40 na disk no; 50 nc disk yes")
	nodes := words("na nb nc nd")
	for at, want := range map[int]string{
		9: "", 10: "na safe; nb not", 20: "na big; na both; na safe; nb not", 30: "na big; na both; na safe; nb big; nb not", 40: "na big; na not; nb big; nb not",
		50: "na big; na not; nb big; nb not; nc safe", 110: "na big; na not; nb big; nc safe", 120: "na not; nb big; nc safe", 129: "na not; nb big; nc safe", 130: "na not; nc safe", 140: "nc safe", 150: "",
	} {
		is(t, fmt.Sprint("Facts ", at), all(posture.Facts(p, l, 100, nodes, at)), all(facts(want), api.OK))
	}
	is(t, "one node", all(posture.Facts(p, l, 100, words("nb"), 40)), all(facts("nb big; nb not"), api.OK))
	is(t, "no nodes", all(posture.Facts(p, l, 100, nil, 40)), all(facts(""), api.OK))
	is(t, "no postures", all(posture.Facts(nil, l, 100, nodes, 40)), all(facts(""), api.OK))
	at := 0
	for _, next := range []int{10, 20, 30, 40, 50, 110, 120, 130, 140, 150} {
		is(t, fmt.Sprint("NextChange ", at), all(posture.NextChange(p, l, 100, nodes, at)), all(next, true, api.OK))
		at = next
	}
	is(t, "NextChange behind all", all(posture.NextChange(p, l, 100, nodes, at)), all(0, false, api.OK))
}

// P7.5: what changes when another posture takes the place of one, or a node that of another one.
func TestNextChange(t *testing.T) {
	for _, c := range []struct {
		p, l      string
		fresh, at int
		want      int
	}{
		{"p a", "5 na a yes", 10, 0, 5}, {"p a", "5 na a yes", 10, 4, 5}, {"p a", "5 na a yes", 10, 5, 15}, {"p a", "5 na a yes", 10, 14, 15}, {"p a", "5 na a yes", 10, 15, 0},
		{"p a", "5 na a no", 10, 0, 0}, {"p a", "5 nx a yes", 10, 0, 0}, {"p a", "", 10, 0, 0}, {"p b", "5 na a yes", 10, 0, 0}, {"", "5 na a yes", 10, 0, 0},
		// What stays so is no change.
		{"p a", "5 na a yes; 9 na a yes; 19 na a yes", 10, 5, 29}, {"p a", "5 na a yes; 15 na a yes", 10, 5, 25}, {"p a", "5 na a yes; 16 na a yes", 10, 5, 15}, {"p a", "5 na a yes; 16 na a yes", 10, 15, 16},
		{"p a || b", "5 na a yes; 8 na b yes; 9 na a no", 10, 5, 18}, {"p a && !b", "5 na a yes; 8 na b yes; 9 na b no", 10, 0, 9}, {"p a == 5 || a == 6", "5 na a 5; 9 na a 6; 12 na a 7", 100, 5, 12},
		// Claims of one moment come all at once.
		{"p a || b; q c", "5 na a yes; 5 na b no; 9 na a no; 9 na b yes", 10, 5, 19}, {"p a && b", "5 na a yes; 5 na b no; 9 na a no; 9 na b yes", 10, 0, 0}, {"p a && b", "5 na a yes; 15 na b yes", 10, 0, 0}, {"p a && b", "6 na a yes; 15 na b yes", 10, 0, 15},
		// As many facts, but other ones.
		{"p a == 5; q a == 6", "5 na a 5; 9 na a 6", 10, 5, 9}, {"p a", "5 na a yes; 9 na a no; 9 nb a yes", 10, 5, 9},
		// The least one of all.
		{"p a; q b", "5 na a yes; 7 na b yes; 8 nb b yes", 3, 5, 7}, {"p a; q b", "5 na a yes; 7 na b yes; 8 nb b yes", 3, 7, 8}, {"p a; q b", "5 na a yes; 7 na b yes; 8 nb b yes", 3, 8, 10}, {"p a; q b", "5 na a yes; 7 na b yes; 8 nb b yes", 3, 10, 11}, {"p a; q b", "5 nb a yes; 9 na b yes; 7 nc b yes", 3, 0, 5},
		// Up to the end, and not at moment 0.
		{"p a", "0 na a yes", 10, 0, 10}, {"p a", "0 na a yes", api.End - 1, 0, api.End - 1}, {"p a", "0 na a yes", api.End, 0, 0}, {"p a", last + " na a yes", 1, 0, api.End - 1}, {"p a", last + " na a yes", 1, api.End - 1, 0},
	} {
		l := claims(c.l)
		slices.SortFunc(l, func(x, y api.Claim) int { return x.At - y.At })
		is(t, fmt.Sprint(c), all(posture.NextChange(postures(c.p), l, c.fresh, words("na nb nc"), c.at)), all(c.want, c.want > 0, api.OK))
	}
}

// P7.5: random postures are held against a second telling.
func TestFactsOfMany(t *testing.T) {
	r := newChance(8)
	changes := 0
	for range 300 {
		p, l, fresh, nodes := r.postures(), r.claims(), 1+r.Intn(20), some(r, words("na na1 nb nc nd"))
		const end = until + 21
		tell := func(at int) []api.Fact {
			var out []api.Fact
			for _, node := range nodes {
				for _, x := range p {
					if verdict, _ := verdictOf(x.Cond, verdictsOf(x.Cond, l, fresh, node, at)); verdict == api.JudgeYes {
						out = append(out, api.Fact{Node: node, Posture: x.Key})
					}
				}
			}
			return out
		}
		seconds := repeat(end, tell)
		for at, want := range seconds {
			is(t, "Facts", all(posture.Facts(p, l, fresh, nodes, at)), all(want, api.OK))
			next := at + 1
			for next < end && slices.Equal(seconds[next], seconds[next-1]) {
				next++
			}
			if next == end {
				next = 0
			}
			changes += min(next, 1)
			is(t, "NextChange", all(posture.NextChange(p, l, fresh, nodes, at)), all(next, next > 0, api.OK))
		}
	}
	if changes < 1_000 {
		t.Error(changes)
	}
}

// P7.5: as many facts as there can be.
func TestManyFacts(t *testing.T) {
	p := repeat(api.MaxPostures, func(i int) api.Posture { return api.Posture{Key: key(i), Cond: cond("a")} })
	nodes := repeat(api.MaxNodes, key)
	l := repeat(21, func(i int) api.Claim {
		return api.Claim{At: 5, Node: key(i), Name: "a", Value: attr(map[bool]string{true: "yes", false: "no"}[i < 20])}
	})
	want := repeat(api.MaxFacts, func(i int) api.Fact { return api.Fact{Node: key(i / 100), Posture: key(i % 100)} })
	is(t, "full", all(posture.Facts(p, l, 10, nodes, 9)), all(want, api.OK))
	p[99].Cond = cond("a || !a")
	is(t, "one more", all(posture.Facts(p, l, 10, nodes, 9)), all([]api.Fact{}, api.ErrLarge))
	is(t, "one more", all(posture.NextChange(p, l, 10, nodes, 0)), all(5, true, api.OK))
	is(t, "ahead of them", all(posture.Facts(p, l, 10, nodes, 4)), all([]api.Fact{}, api.OK))
}

// P7.5, Z4, Z6
func TestErrorsOfFacts(t *testing.T) {
	steps := []step{
		{api.ErrLarge, func(in *input) { in.postures = nil }},
		{api.ErrOrder, func(in *input) { in.claims = nil }},
		{api.ErrArg, func(in *input) { in.fresh = 1 }},
		{api.ErrLarge, func(in *input) { in.nodes = words("b A a") }},
		{api.ErrName, func(in *input) { in.nodes = words("b a A") }},
		{api.ErrOrder, func(in *input) { in.nodes = repeat(api.MaxNodes, key) }},
		{api.ErrArg, func(in *input) { in.at = 0 }},
	}
	ladder(t, "Facts", steps...)
	ladder(t, "NextChange", steps...)
	for _, f := range []func(fresh int, nodes []string, at int) api.Errno{
		func(fresh int, nodes []string, at int) api.Errno {
			return errnoOf(all(posture.Facts(nil, nil, fresh, nodes, at)))
		},
		func(fresh int, nodes []string, at int) api.Errno {
			return errnoOf(all(posture.NextChange(nil, nil, fresh, nodes, at)))
		},
	} {
		for _, n := range wrongNumbers(1, api.End) {
			is(t, "fresh", f(n, nil, 0), api.ErrArg)
		}
		for _, n := range wrongNumbers(0, api.End-1) {
			is(t, "the moment", f(1, nil, n), api.ErrArg)
		}
		for _, s := range notKeys {
			is(t, "a node", f(1, []string{s}, 0), api.ErrName)
			is(t, "the second node", f(1, []string{"a", s}, 0), api.ErrName)
		}
		is(t, "a node twice", f(1, words("a a"), 0), api.ErrOrder)
		is(t, "too many nodes", f(1, repeat(api.MaxNodes+1, key), 0), api.ErrLarge)
	}
}

// P7.5, Z1: as many claims and postures as there can be, and only the last claim changes something.
func TestLargePostures(t *testing.T) {
	c := leaves(api.MaxLeaves, api.CondOr)
	p := repeat(api.MaxPostures, func(i int) api.Posture { return api.Posture{Key: key(i), Cond: c} })
	l := repeat(api.MaxClaims, func(i int) api.Claim {
		return api.Claim{At: i, Node: key(i % 4), Name: key(i / 4 % api.MaxLeaves), Value: attr("5")}
	})
	l[api.MaxClaims-1].Value = attr("4")
	nodes := repeat(api.MaxNodes, key)
	is(t, "NextChange", all(posture.NextChange(p, l, 900, nodes, 0)), all(api.MaxClaims-1, true, api.OK))
	want := repeat(api.MaxPostures, func(i int) api.Fact { return api.Fact{Node: key(3), Posture: key(i)} })
	is(t, "Facts", all(posture.Facts(p, l, 900, nodes, api.MaxClaims)), all(want, api.OK))
	is(t, "HeldTime", all(posture.HeldTime(c, l, 900, key(3), window(0, api.End))), all(900, api.OK))
}
