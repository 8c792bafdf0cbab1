package posture_test

import (
	"fmt"
	"maps"
	"slices"
	"strings"
	"testing"

	"holloway/api"
	"holloway/posture"
)

// wrongConds are wrong conditions.
func wrongConds() []struct {
	name string
	c    api.Cond
	e    api.Errno
} {
	type wrong = struct {
		name string
		c    api.Cond
		e    api.Errno
	}
	a, b := comparison("a == 5"), comparison("b == yes")
	bad := api.Cond{Kind: 5}
	with := func(c api.Cond, do func(c *api.Cond)) api.Cond {
		do(&c)
		return c
	}
	out := []wrong{
		{"the zero value", api.Cond{}, api.ErrKind},
		{"kind, ahead of form", api.Cond{Kind: -1, Name: "a", Kids: []api.Cond{a}}, api.ErrKind},
		{"no comparison", and(api.Cond{}, api.Cond{}), api.ErrKind},
		{"not of none", api.Cond{Kind: api.CondNot}, api.ErrForm},
		{"not of two", api.Cond{Kind: api.CondNot, Kids: []api.Cond{a, b}}, api.ErrForm},
		{"and of none", and(), api.ErrForm},
		{"and of one", and(a), api.ErrForm},
		{"or of none", or(), api.ErrForm},
		{"or of one", or(a), api.ErrForm},
		{"and of an and", and(a, and(a, b)), api.ErrForm},
		{"and of an and first", and(and(a, b), b, a), api.ErrForm},
		{"or of an or", or(a, b, or(a, b)), api.ErrForm},
		{"a comparison with another one", with(a, func(c *api.Cond) { c.Kids = []api.Cond{b} }), api.ErrForm},
		{"a comparison with what is wrong", with(a, func(c *api.Cond) { c.Name, c.Kids = "A", []api.Cond{bad} }), api.ErrForm},
		{"not with a name", with(not(a), func(c *api.Cond) { c.Name = "a" }), api.ErrForm},
		{"and with an operator", with(and(a, b), func(c *api.Cond) { c.Op = "==" }), api.ErrForm},
		{"or with a value", with(or(a, b), func(c *api.Cond) { c.Value.Kind = 1 }), api.ErrForm},
		{"or with a number", with(or(a, b), func(c *api.Cond) { c.Value.Number = 1 }), api.ErrForm},
		{"not with words", with(not(a), func(c *api.Cond) { c.Value.Words = "a" }), api.ErrForm},
		{"and with a version", with(and(a, b), func(c *api.Cond) { c.Value.Version[3] = 1 }), api.ErrForm},
		{"form, ahead of what is in it", and(bad, and(a, b)), api.ErrForm},
		{"what is in the first one, ahead of the second one", or(not(comparison("A == 5")), bad), api.ErrName},
		{"the first one, ahead of what is in the second one", or(and(comparison("a = 5"), a), not(bad)), api.ErrType},
		{"the second one", or(and(a, b), bad), api.ErrKind},
		{"the last one", and(a, not(not(or(a, b, and(b, comparison("true == 5")))))), api.ErrName},
		{"a name, ahead of the operator", comparison("v5 = 1.2.3.-4"), api.ErrName},
		{"an operator, ahead of the value", comparison("a = 1.2.3.-4"), api.ErrType},
		{"a value, ahead of the operator of a flag", with(comparison("a < yes"), func(c *api.Cond) { c.Value.Number = 2 }), api.ErrArg},
	}
	for _, kind := range wrongNumbers(api.CondIs, api.CondOr) {
		out = append(out, wrong{"kind", with(a, func(c *api.Cond) { c.Kind = kind }), api.ErrKind}, wrong{"kind inside", not(api.Cond{Kind: kind}), api.ErrKind})
	}
	for _, name := range append(notKeys, "true", "false", "v0", "v1", "v9a", "v1-") {
		out = append(out, wrong{"name " + name, with(a, func(c *api.Cond) { c.Name = name }), api.ErrName})
	}
	for _, op := range []string{"", "=", "!", "===", "=<", "=>", "<>", " ==", "== ", "<<", "is", "&&", "||", "\x00"} {
		out = append(out, wrong{"operator " + op, with(a, func(c *api.Cond) { c.Op = op }), api.ErrType})
	}
	for _, op := range ops[2:] {
		out = append(out, wrong{"flags with " + op, with(b, func(c *api.Cond) { c.Op = op }), api.ErrType})
	}
	for _, w := range wrongAttrs() {
		out = append(out, wrong{w.name, with(a, func(c *api.Cond) { c.Value = w.a }), w.e})
		out = append(out, wrong{w.name, or(not(b), with(b, func(c *api.Cond) { c.Op, c.Value = "<", w.a })), w.e})
	}
	return out
}

// nots is a condition that is so deep.
func nots(deep int) api.Cond {
	if deep == 1 {
		return comparison("a == 5")
	}
	return not(nots(deep - 1))
}

// leaves is a condition with so many comparisons.
func leaves(n int, kind int) api.Cond {
	return api.Cond{Kind: kind, Kids: repeat(n, func(i int) api.Cond { return comparison(key(i) + " < 5") })}
}

// P7.2, Z4, Z6
func TestCheckCond(t *testing.T) {
	right := []api.Cond{nots(1), nots(api.MaxDeep), leaves(api.MaxLeaves, api.CondAnd), leaves(api.MaxLeaves, api.CondOr), or(leaves(60, api.CondAnd), leaves(40, api.CondAnd))}
	for _, name := range words("a v va v- truex false1 t a-1_ " + strings.Repeat("a", api.MaxName)) {
		right = append(right, comparison(name+" == yes"))
	}
	for _, l := range rightAttrs() {
		for _, a := range l {
			for _, op := range ops {
				if a.Kind != api.AttrFlag || op == "==" || op == "!=" {
					right = append(right, api.Cond{Kind: api.CondIs, Name: "a", Op: op, Value: a})
				}
			}
		}
	}
	for _, c := range right {
		is(t, fmt.Sprint(c), posture.CheckCond(c), api.OK)
	}
	for _, w := range wrongConds() {
		is(t, w.name, posture.CheckCond(w.c), w.e)
		is(t, w.name+" inside", posture.CheckCond(not(or(comparison("z == 5"), not(w.c)))), w.e)
		is(t, w.name+", ahead of others", posture.CheckCond(not(or(not(w.c), api.Cond{}, not(api.Cond{Kind: api.CondIs}), not(and())))), w.e)
		if len(w.c.Kids) == 0 || w.e == api.ErrForm {
			is(t, w.name+", behind what is right", posture.CheckCond(or(and(comparison("z == 5"), not(comparison("y == 5"))), w.c)), map[bool]api.Errno{true: api.ErrForm, false: w.e}[w.c.Kind == api.CondOr])
		}
	}
}

// P7.2: too large ones, also if they are wrong.
func TestLargeConds(t *testing.T) {
	wrong := func(n int) api.Cond { return api.Cond{Kids: make([]api.Cond, n)} }
	deep := api.Cond{Kind: 9}
	for range api.MaxDeep - 1 {
		deep = api.Cond{Kind: 9, Kids: []api.Cond{deep}}
	}
	cycle := make([]api.Cond, 2)
	for i := range cycle {
		cycle[i].Kids = cycle
	}
	for _, c := range []struct {
		c api.Cond
		e api.Errno
	}{
		{nots(api.MaxDeep + 1), api.ErrLarge},
		{nots(200), api.ErrLarge},
		{deep, api.ErrKind},
		{api.Cond{Kids: []api.Cond{deep}}, api.ErrLarge},
		{api.Cond{Kids: []api.Cond{{}, {}, deep}}, api.ErrLarge},
		{not(and(nots(2), nots(api.MaxDeep-1))), api.ErrLarge},
		{not(and(nots(2), nots(api.MaxDeep-2))), api.OK},
		{leaves(api.MaxLeaves+1, api.CondAnd), api.ErrLarge},
		{leaves(api.MaxLeaves+1, 9), api.ErrLarge},
		{or(leaves(60, api.CondAnd), leaves(41, api.CondAnd)), api.ErrLarge},
		{or(not(leaves(60, api.CondOr)), leaves(39, api.CondAnd), comparison("a == 5")), api.OK},
		{leaves(api.MaxLeaves, api.CondIs), api.ErrLarge},
		{leaves(api.MaxLeaves-1, api.CondIs), api.ErrForm},
		{api.Cond{Kids: []api.Cond{leaves(api.MaxLeaves, 9), {Kind: api.CondIs}}}, api.ErrLarge},
		{wrong(100_000), api.ErrKind},
		{api.Cond{Kind: api.CondOr, Kids: cycle}, api.ErrLarge},
	} {
		is(t, "CheckCond", posture.CheckCond(c.c), c.e)
	}
}

// P7.2: functions with a condition return its error first.
func TestCondFirst(t *testing.T) {
	for _, w := range append(wrongConds(), struct {
		name string
		c    api.Cond
		e    api.Errno
	}{"too deep", nots(api.MaxDeep + 1), api.ErrLarge}) {
		in := wrongInput()
		in.cond = w.c
		for _, name := range words("CheckCond Print Names Judge Proof HeldTime") {
			is(t, name+": "+w.name, errnoOf(callOf(name)(in)), w.e)
		}
		in.postures = []api.Posture{{Key: "a", Cond: comparison("a == 5")}, {Key: "b", Cond: w.c}, {Key: "A"}}
		for _, name := range words("CheckPostures Facts NextChange") {
			is(t, name+": "+w.name, errnoOf(callOf(name)(in)), w.e)
		}
	}
}

// P7.3, and the document's example.
func TestNames(t *testing.T) {
	for s, want := range map[string]string{
		`os == "linux" && (disk || version >= v1.12)`: "disk os version",
		"a": "a", "!a": "a", "b || a || b && !(a || c)": "a b c", "a-b && a && a_b && ab && a0 && a == 5": "a a-b a0 a_b ab",
	} {
		is(t, s, all(posture.Names(cond(s))), all(words(want), api.OK))
	}
	r := newChance(3)
	for range 300 {
		c := r.cond(4)
		found := map[string]bool{}
		for _, x := range leavesOf(c) {
			found[x.Name] = true
		}
		is(t, "Names", all(posture.Names(c)), all(slices.Sorted(maps.Keys(found)), api.OK))
	}
}

// leavesOf are the comparisons of a condition, from left to right.
func leavesOf(c api.Cond) []api.Cond {
	if c.Kind == api.CondIs {
		return []api.Cond{c}
	}
	var out []api.Cond
	for _, kid := range c.Kids {
		out = append(out, leavesOf(kid)...)
	}
	return out
}
