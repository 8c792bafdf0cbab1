package posture_test

import (
	"fmt"
	"slices"
	"testing"

	"holloway/api"
	"holloway/posture"
)

// P7.6, Z4, Z6
func TestCheckAccess(t *testing.T) {
	right := accesses("a 1 1 1 ua; a- 2 5 5 ua ub; b 1 345686400 345686400 ua ub ub- v; c 3 5 5 a b c")
	var spoilers []spoiler[api.Access]
	for _, s := range notKeys {
		spoilers = append(spoilers, spoiler[api.Access]{"a posture", func(x *api.Access) { x.Posture = s }, api.ErrName})
	}
	ahead := len(spoilers)
	number := func(name string, of func(x *api.Access) *int, wrong ...int) {
		for _, n := range wrong {
			spoilers = append(spoilers, spoiler[api.Access]{fmt.Sprint(name, " ", n), func(x *api.Access) { *of(x) = n }, api.ErrArg})
		}
	}
	approvers := func(name string, l []string, e api.Errno) {
		spoilers = append(spoilers, spoiler[api.Access]{name, func(x *api.Access) { x.Approvers = l }, e})
	}
	approvers("too many", repeat(api.MaxUsers+1, key), api.ErrLarge)
	approvers("too many wrong ones", make([]string, api.MaxUsers+1), api.ErrLarge)
	for _, s := range notKeys {
		approvers("an approver", []string{s}, api.ErrName)
		approvers("the second approver", []string{"a", s, "a"}, api.ErrName)
	}
	approvers("approvers in no order", words("b a A"), api.ErrOrder)
	approvers("an approver twice", words("a b b"), api.ErrOrder)
	number("Need", func(x *api.Access) *int { return &x.Need }, 0, -1, 5, -1<<63, 1<<63-1)
	number("Wait", func(x *api.Access) *int { return &x.Wait }, wrongNumbers(1, api.End)...)
	number("Most", func(x *api.Access) *int { return &x.Most }, wrongNumbers(1, api.End)...)
	checked(t, right, posture.CheckAccess, ahead, spoilers)
	for _, x := range right {
		for need := -1; need < 6; need++ {
			x.Need = need
			is(t, fmt.Sprint("Need ", x), posture.CheckAccess([]api.Access{x}), map[bool]api.Errno{true: api.OK, false: api.ErrArg}[need >= 1 && need <= len(x.Approvers)])
		}
	}
	for need := range 2 {
		is(t, "no approvers", posture.CheckAccess([]api.Access{{Posture: "a", Need: need, Wait: 1, Most: 1}}), api.ErrArg)
	}
	many := func(n int) []api.Access {
		return repeat(n, func(i int) api.Access {
			return api.Access{Posture: key(i), Approvers: repeat(api.MaxUsers, key), Need: api.MaxUsers, Wait: 5, Most: 5}
		})
	}
	is(t, "full", posture.CheckAccess(many(api.MaxAccess)), api.OK)
	is(t, "too many", posture.CheckAccess(many(api.MaxAccess+1)), api.ErrLarge)
	is(t, "too many wrong ones", posture.CheckAccess(make([]api.Access, api.MaxAccess+1)), api.ErrLarge)
}

// P7.6, Z4, Z6
func TestCheckAskings(t *testing.T) {
	right := askings("0 q ua for n p 1; 0 q ub yes; 0 q- ua no; 1 a z stop; 1 b a for a- b_ 345686400; 1 b b for a b 5; 2 a a yes; " + last + " a a no")
	one := func(kind func(x api.Asking) bool) []api.Asking {
		return slices.DeleteFunc(slices.Clone(right), func(x api.Asking) bool { return !kind(x) })
	}
	var spoilers []spoiler[api.Asking]
	add := func(name string, do func(x *api.Asking), e api.Errno) {
		spoilers = append(spoilers, spoiler[api.Asking]{name, do, e})
	}
	for _, n := range wrongNumbers(0, api.End-1) {
		add("the moment", func(x *api.Asking) { x.At = n }, api.ErrArg)
	}
	for _, s := range notKeys {
		add("a key", func(x *api.Asking) { x.Key = s }, api.ErrName)
		add("who", func(x *api.Asking) { x.By = s }, api.ErrName)
	}
	for _, n := range wrongNumbers(api.AskFor, api.AskStop) {
		add("a kind", func(x *api.Asking) { x.Kind = n }, api.ErrKind)
	}
	shared := spoilers
	checked(t, right, posture.CheckAskings, len(shared), shared)
	for _, s := range notKeys {
		add("a node", func(x *api.Asking) { x.Node = s }, api.ErrName)
		add("a posture", func(x *api.Asking) { x.Posture = s }, api.ErrName)
	}
	for _, n := range wrongNumbers(1, api.End) {
		add("a time", func(x *api.Asking) { x.Long = n }, api.ErrArg)
	}
	checked(t, one(func(x api.Asking) bool { return x.Kind == api.AskFor }), posture.CheckAskings, len(spoilers), spoilers)
	spoilers = slices.Clone(shared)
	for _, s := range []string{"a", "A", " "} {
		add("a node", func(x *api.Asking) { x.Node = s }, api.ErrForm)
		add("a posture", func(x *api.Asking) { x.Posture = s }, api.ErrForm)
	}
	for _, n := range []int{1, -1, 1 << 62} {
		add("a time", func(x *api.Asking) { x.Long = n }, api.ErrForm)
	}
	checked(t, one(func(x api.Asking) bool { return x.Kind != api.AskFor }), posture.CheckAskings, len(spoilers), spoilers)
	many := func(n int) []api.Asking {
		return repeat(n, func(i int) api.Asking { return api.Asking{At: i / 2, Key: key(i), By: "a", Kind: api.AskYes} })
	}
	is(t, "full", posture.CheckAskings(many(api.MaxAskings)), api.OK)
	is(t, "too many", posture.CheckAskings(many(api.MaxAskings+1)), api.ErrLarge)
	is(t, "too many wrong ones", posture.CheckAskings(make([]api.Asking, api.MaxAskings+1)), api.ErrLarge)
}
