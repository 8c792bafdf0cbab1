package posture_test

import (
	"cmp"
	"fmt"
	"slices"
	"testing"

	"holloway/api"
	"holloway/posture"
)

// told are claims in which `y` and so on are yes, `n` no, and of `u` nothing is known.
var told = claims("5 n n no; 5 n n1 no; 5 n n2 no; 5 n y yes; 5 n y1 yes; 5 n y2 yes")

// P7.4: what is known of conditions of all kinds.
func TestJudge(t *testing.T) {
	for s, want := range map[string]int{
		"y": 1, "n": 0, "u": 2, "!y": 0, "!n": 1, "!u": 2, "!!y": 1, "!!u": 2,
		"y&&y": 1, "y&&n": 0, "y&&u": 2, "n&&y": 0, "n&&n": 0, "n&&u": 0, "u&&y": 2, "u&&n": 0, "u&&u": 2,
		"y||y": 1, "y||n": 1, "y||u": 1, "n||y": 1, "n||n": 0, "n||u": 2, "u||y": 1, "u||n": 2, "u||u": 2,
		"y&&u&&n": 0, "y&&u&&y": 2, "n||u||y": 1, "n||u||n": 2, "y&&y&&y": 1, "n||n||n": 0,
		"y&&(n||u)": 2, "(y||u)&&(u||y)": 1, "!(n&&u)": 1, "!(y||u)": 0, "!(u||n)": 2, "n&&u||y&&y": 1, "u&&u||n": 2,
		// Of another kind than what is known.
		"y == 1": 2, "y != 1": 2, "y < 5": 2, "y != \"x\"": 2, "y == v1": 2, "!(y == 1)": 2, "u != false": 2, "n == 0": 2,
		"y == true": 1, "y != true": 0, "n == false": 1, "n != false": 0, "n == true": 0, "y != false": 1,
	} {
		is(t, s, all(posture.Judge(cond(s), told, 10, "n", 9)), all(want, api.OK))
	}
}

// P7.4: comparisons are as Order says.
func TestJudgeComparisons(t *testing.T) {
	for _, l := range rightAttrs() {
		for _, a := range l {
			known := []api.Claim{{At: 5, Node: "n", Name: "x", Value: a}}
			for _, b := range l {
				order, _, _ := posture.Order(a, b)
				for i, yes := range []bool{order == 0, order != 0, order < 0, order <= 0, order > 0, order >= 0} {
					if a.Kind == api.AttrFlag && i > 1 {
						continue
					}
					c := api.Cond{Kind: api.CondIs, Name: "x", Op: ops[i], Value: b}
					want := map[bool]int{false: api.JudgeNo, true: api.JudgeYes}[yes]
					is(t, fmt.Sprint(a, ops[i], b), all(posture.Judge(c, known, 10, "n", 9)), all(want, api.OK))
				}
			}
		}
	}
}

// P7.4, and the document's example.
func TestJudgeTimes(t *testing.T) {
	c := cond(`os == "linux" && (disk || version >= v1.12)`)
	l := claims("10 n disk yes; 20 n os 'linux'; 30 m version 1.2.0.0; 40 n version 1.2.0.0; 60 n disk no; 80 n version 1.12.0.0; 100 n os 'mac'")
	for at, want := range map[int]struct {
		verdict int
		proof   []int
	}{
		9: {2, nil}, 10: {2, nil}, 19: {2, nil}, 20: {1, []int{0, 1}}, 40: {1, []int{0, 1}}, 59: {1, []int{0, 1}}, 60: {0, []int{1, 2}}, 79: {0, []int{1, 2}}, 80: {1, []int{0, 2}}, 99: {1, []int{0, 2}},
		100: {0, []int{0}}, 199: {0, []int{0}}, 200: {2, nil}, api.End - 1: {2, nil}, 0: {2, nil},
	} {
		is(t, fmt.Sprint("Judge ", at), all(posture.Judge(c, l, 100, "n", at)), all(want.verdict, api.OK))
		is(t, fmt.Sprint("Proof ", at), all(posture.Proof(c, l, 100, "n", at)), all(want.proof, api.OK))
	}
	is(t, "another node", all(posture.Judge(c, l, 100, "m", 50)), all(api.JudgeUnknown, api.OK))
	is(t, "no such node", all(posture.Judge(c, l, 100, "k", 50)), all(api.JudgeUnknown, api.OK))
	for w, want := range map[api.Window]int{
		window(0, api.End): 60, window(20, 100): 60, window(21, 99): 58, window(0, 20): 0, window(59, 81): 2, window(60, 80): 0, window(50, 50): 0, window(99, api.End): 1, window(api.End, api.End): 0,
	} {
		is(t, fmt.Sprint("HeldTime ", w), all(posture.HeldTime(c, l, 100, "n", w)), all(want, api.OK))
	}
	is(t, "another node", all(posture.HeldTime(c, l, 100, "m", window(0, api.End))), all(0, api.OK))
}

// P7.4
func TestProof(t *testing.T) {
	for _, c := range []struct {
		s    string
		want []int
	}{
		{"u", nil}, {"y", []int{0}}, {"n", []int{0}}, {"!y", []int{0}}, {"!!n", []int{0}},
		{"y&&y1", []int{0, 1}}, {"n||n1", []int{0, 1}}, {"n&&n1", []int{0}}, {"y||y1", []int{0}}, {"u&&n&&y&&n", []int{1}}, {"u||n||y", []int{2}}, {"u&&y", nil}, {"u||n", nil},
		{"y&&!n&&y2", []int{0, 1, 2}}, {"!(n||n1)&&y", []int{0, 1, 2}}, {"!(y&&y1||u)", []int{0, 1}}, {"!(y&&y1)", []int{0, 1}}, {"!(y&&n)", []int{1}},
		// The fewest ones, wherever they are.
		{"y&&y1||y2", []int{2}}, {"y2||y&&y1", []int{0}}, {"(n||n1)&&n2", []int{2}}, {"(n||n1)&&(n||n1||n2)", []int{0, 1}}, {"(n||n1||n2)&&(n||n1)", []int{3, 4}}, {"u&&u&&u||y&&y1&&y2||y&&y1", []int{6, 7}},
		// Of several ones the least.
		{"u||y&&y1||n&&u||y1&&y", []int{1, 2}}, {"y&&(y||y1)&&(n||y||y1)", []int{0, 1, 4}}, {"(y&&y1||y&&y2)&&(n||y)", []int{0, 1, 5}}, {"y&&(u||y&&y1||y1&&y2)||u", []int{0, 2, 3}},
		// One attribute can be in several comparisons, which are looked at by themselves.
		{"y&&y&&y&&y&&y", []int{0, 1, 2, 3, 4}}, {"y||!y", []int{0}}, {"n||!n", []int{1}}, {"y&&y", []int{0, 1}}, {"u||!u", nil}, {"y == true && y != false", []int{0, 1}},
	} {
		is(t, c.s, all(posture.Proof(cond(c.s), told, 10, "n", 9)), all(c.want, api.OK))
	}
	large := or(leaves(99, api.CondAnd), comparison("k0000 < 5"))
	yes := repeat(99, func(i int) api.Claim { return api.Claim{At: 5, Node: "n", Name: key(i), Value: attr("4")} })
	is(t, "large", all(posture.Proof(large, yes, 10, "n", 9)), all([]int{99}, api.OK))
	is(t, "large", all(posture.Proof(large.Kids[0], yes, 10, "n", 9)), all(repeat(99, func(i int) int { return i }), api.OK))
}

// verdictOf tells once more what is known of a condition, by what is known of its comparisons, and how many these are.
func verdictOf(c api.Cond, known []int) (int, int) {
	if c.Kind == api.CondIs {
		return known[0], 1
	}
	var many [3]int
	size := 0
	for _, kid := range c.Kids {
		verdict, n := verdictOf(kid, known[size:])
		many[verdict]++
		size += n
	}
	switch {
	case c.Kind == api.CondNot && many[2] == 0:
		return many[0], size
	case c.Kind == api.CondAnd && many[0] > 0:
		return 0, size
	case c.Kind == api.CondOr && many[1] > 0:
		return 1, size
	case many[2] > 0:
		return 2, size
	}
	return map[int]int{api.CondAnd: 1, api.CondOr: 0}[c.Kind], size
}

// verdictsOf are what is known of the comparisons of a condition, as the document says.
func verdictsOf(c api.Cond, l []api.Claim, fresh int, node string, at int) []int {
	var out []int
	for _, x := range leavesOf(c) {
		value := valueAt(l, fresh, node, x.Name, at)
		verdict := api.JudgeUnknown
		if value.Kind == x.Value.Kind {
			order, _, _ := posture.Order(value, x.Value)
			verdict = map[bool]int{false: 0, true: 1}[slices.Contains(map[string][]int{"==": {0}, "!=": {-1, 1}, "<": {-1}, "<=": {-1, 0}, ">": {1}, ">=": {0, 1}}[x.Op], order)]
		}
		out = append(out, verdict)
	}
	return out
}

// isEnough says whether some comparisons are enough to decide, by trying all that the others could be.
func isEnough(c api.Cond, known []int, some []int) bool {
	want, _ := verdictOf(c, known)
	tried := slices.Clone(known)
	var same func(i int) bool
	same = func(i int) bool {
		if i == len(known) {
			got, _ := verdictOf(c, tried)
			return got == want
		}
		if slices.Contains(some, i) {
			return same(i + 1)
		}
		for tried[i] = range 3 {
			if !same(i + 1) {
				return false
			}
		}
		return true
	}
	return same(0)
}

// proofOf tells once more which comparisons are the fewest that decide, by trying all.
func proofOf(c api.Cond, known []int) []int {
	if verdict, _ := verdictOf(c, known); verdict == api.JudgeUnknown {
		return nil
	}
	var all [][]int
	for set := range 1 << len(known) {
		var some []int
		for i := range known {
			if set>>i&1 == 1 {
				some = append(some, i)
			}
		}
		all = append(all, some)
	}
	slices.SortFunc(all, func(x, y []int) int { return cmp.Or(cmp.Compare(len(x), len(y)), slices.Compare(x, y)) })
	i := slices.IndexFunc(all, func(some []int) bool { return isEnough(c, known, some) })
	return all[i]
}

// P7.4: random conditions are held against a second telling.
func TestJudgeOfMany(t *testing.T) {
	r := newChance(6)
	count := [3]int{}
	for range 1_500 {
		c, l, fresh, node, at := r.cond(1+r.Intn(5)), r.claims(), 1+r.Intn(40), pick(r, someNodes), r.Intn(until+20)
		known := verdictsOf(c, l, fresh, node, at)
		want, _ := verdictOf(c, known)
		count[want]++
		name := fmt.Sprint(c, l, fresh, node, at)
		is(t, name, all(posture.Judge(c, l, fresh, node, at)), all(want, api.OK))
		proof, e := posture.Proof(c, l, fresh, node, at)
		is(t, name, all(len(proof) == 0, e), all(want == api.JudgeUnknown, api.OK))
		if len(known) <= 8 {
			is(t, name, proof, proofOf(c, known))
		}
	}
	if min(count[0], count[1], count[2]) < 100 {
		t.Error(count)
	}
}

// P7.4: second by second.
func TestHeldTimeOfMany(t *testing.T) {
	r := newChance(7)
	some := 0
	for range 1_000 {
		c, l, fresh, node := r.cond(1+r.Intn(3)), r.claims(), 1+r.Intn(20), pick(r, someNodes)
		from := r.Intn(until)
		w := window(from, from+r.Intn(until+20))
		want := 0
		for at := w.From; at < w.To; at++ {
			if verdict, _ := verdictOf(c, verdictsOf(c, l, fresh, node, at)); verdict == api.JudgeYes {
				want++
			}
		}
		some += min(want, 1)
		is(t, fmt.Sprint(c, l, fresh, node, w), all(posture.HeldTime(c, l, fresh, node, w)), all(want, api.OK))
	}
	if some < 100 {
		t.Error(some)
	}
}

// P7.4: up to the end.
func TestHeldTimeAtTheEnd(t *testing.T) {
	always := window(0, api.End)
	for _, c := range []struct {
		l     string
		fresh int
		want  int
	}{
		{"0 n a yes", api.End, api.End}, {"0 n a yes", api.End - 1, api.End - 1}, {"0 n a yes", 1, 1}, {"1 n a yes", api.End, api.End - 1}, {last + " n a yes", 1, 1}, {last + " n a yes", api.End, 1},
		{"0 n a yes; 1 n a no", api.End, 1}, {"0 n a no; 1 n a yes", api.End, api.End - 1}, {"0 n a yes; 5 n a yes", 5, 10}, {"0 n a yes; 6 n a yes", 5, 10}, {"0 n a yes; 4 n a yes", 5, 9}, {"0 n a yes; 5 n a no", 5, 5}, {"0 n a yes; 4 n a no", 5, 4},
		{"7 n a yes; 345686395 n a yes", 10, 15}, {"", api.End, 0},
	} {
		is(t, fmt.Sprint(c), all(posture.HeldTime(cond("a"), claims(c.l), c.fresh, "n", always)), all(c.want, api.OK))
	}
	is(t, "the contrary", all(posture.HeldTime(cond("!a"), claims("3 n a no; 9 n a yes"), 100, "n", always)), all(6, api.OK))
}

// P7.4, Z4, Z6
func TestErrorsOfJudge(t *testing.T) {
	steps := []step{
		{api.ErrKind, func(in *input) { in.cond = cond("a") }},
		{api.ErrOrder, func(in *input) { in.claims = nil }},
		{api.ErrArg, func(in *input) { in.fresh = api.End }},
		{api.ErrName, func(in *input) { in.node = "n" }},
	}
	at := step{api.ErrArg, func(in *input) { in.at = api.End - 1 }}
	ladder(t, "Judge", append(steps, at)...)
	ladder(t, "Proof", append(steps, at)...)
	ladder(t, "HeldTime", append(steps, step{api.ErrArg, func(in *input) { in.w = window(0, 0) }})...)
	ladder(t, "Names", steps[0])
	ladder(t, "Print", steps[0])
	ladder(t, "CheckCond", steps[0])
	c := cond("a")
	for _, n := range wrongNumbers(1, api.End) {
		is(t, "fresh", all(posture.Judge(c, nil, n, "n", 0)), all(0, api.ErrArg))
		is(t, "fresh", all(posture.Proof(c, nil, n, "n", 0)), all([]int{}, api.ErrArg))
		is(t, "fresh", all(posture.HeldTime(c, nil, n, "n", window(0, 0))), all(0, api.ErrArg))
	}
	for _, n := range wrongNumbers(0, api.End-1) {
		is(t, "the moment", all(posture.Judge(c, nil, 1, "n", n)), all(0, api.ErrArg))
		is(t, "the moment", all(posture.Proof(c, nil, 1, "n", n)), all([]int{}, api.ErrArg))
	}
	for _, s := range notKeys {
		is(t, "the node", all(posture.Judge(c, nil, 1, s, 0)), all(0, api.ErrName))
		is(t, "the node", all(posture.Proof(c, nil, 1, s, 0)), all([]int{}, api.ErrName))
		is(t, "the node", all(posture.HeldTime(c, nil, 1, s, window(0, 0))), all(0, api.ErrName))
	}
	for _, w := range []api.Window{window(-1, 5), window(6, 5), window(0, -1), window(0, api.End+1), window(api.End+1, api.End+1), window(-1<<63, 1<<63-1), window(-2, -1)} {
		is(t, "the window", all(posture.HeldTime(c, nil, 1, "n", w)), all(0, api.ErrArg))
	}
}
