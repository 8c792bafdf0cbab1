package posture_test

import (
	"fmt"
	"slices"
	"testing"

	"holloway/api"
	"holloway/posture"
)

// P7.6
func TestBoth(t *testing.T) {
	for _, c := range []struct{ a, b, want string }{
		{"", "", ""}, {"n p", "", "n p"}, {"n p", "n p", "n p"}, {"n a; n c", "n b", "n a; n b; n c"}, {"n c; na a", "m z; n b", "m z; n b; n c; na a"}, {"m a; n b", "m a; n a; n b; o a", "m a; n a; n b; o a"}, {"n a; n- a; n0 a", "n b; n_ a; na a", "n a; n b; n- a; n0 a; n_ a; na a"},
	} {
		is(t, c.a+" and "+c.b, all(posture.Both(facts(c.a), facts(c.b))), all(facts(c.want), api.OK))
		is(t, c.b+" and "+c.a, all(posture.Both(facts(c.b), facts(c.a))), all(facts(c.want), api.OK))
	}
	r := newChance(10)
	for range 300 {
		a, b := r.facts(), r.facts()
		var want []api.Fact
		for _, node := range someNodes {
			for _, p := range words("pa pb pc") {
				if f := (api.Fact{Node: node, Posture: p}); slices.Contains(a, f) || slices.Contains(b, f) {
					want = append(want, f)
				}
			}
		}
		is(t, fmt.Sprint(a, b), all(posture.Both(a, b)), all(want, api.OK))
	}
}

// P7.6, Z4
func TestErrorsOfBoth(t *testing.T) {
	right := facts("m a; n a; n a-; n b; n- a")
	var spoilers []spoiler[api.Fact]
	for _, s := range notKeys {
		spoilers = append(spoilers, spoiler[api.Fact]{"a node", func(f *api.Fact) { f.Node = s }, api.ErrName})
		spoilers = append(spoilers, spoiler[api.Fact]{"a posture", func(f *api.Fact) { f.Posture = s }, api.ErrName})
	}
	first := func(l []api.Fact) api.Errno { return errnoOf(all(posture.Both(l, facts("n b; n a")))) }
	second := func(l []api.Fact) api.Errno { return errnoOf(all(posture.Both(right, l))) }
	checked(t, right, second, len(spoilers), spoilers)
	is(t, "the first one, ahead of the second one", all(first(make([]api.Fact, 1)), first(right)), all(api.ErrName, api.ErrOrder))
	many := func(n int) []api.Fact {
		return repeat(n, func(i int) api.Fact { return api.Fact{Node: key(i / 5), Posture: key(i)} })
	}
	full := many(api.MaxFacts)
	is(t, "full", all(posture.Both(full[:1_500], full[700:])), all(full, api.OK))
	is(t, "the same", all(posture.Both(full, full)), all(full, api.OK))
	is(t, "too many", all(posture.Both(full, many(api.MaxFacts + 1)[1:])), all([]api.Fact{}, api.ErrLarge))
	is(t, "the first one is too long", first(many(api.MaxFacts+1)), api.ErrLarge)
	is(t, "the first one is too long and wrong", first(make([]api.Fact, api.MaxFacts+1)), api.ErrLarge)
	is(t, "the second one is too long", second(many(api.MaxFacts+1)), api.ErrLarge)
	is(t, "the second one is too long and wrong", second(make([]api.Fact, api.MaxFacts+1)), api.ErrLarge)
}
