package orders

import (
	"cmp"
	"testing"

	"holloway/api"
)

// rises holds that a list is in an order.
func rises[T any](t *testing.T, name string, compare func(x, y T) int, l ...T) {
	t.Helper()
	for i, x := range l {
		for k, y := range l {
			if got := compare(x, y); got != cmp.Compare(i, k) {
				t.Errorf("%s: %v, %v: %d", name, x, y, got)
			}
		}
	}
}

// P2.2
func TestSteps(t *testing.T) {
	rises(t, "Steps", Steps,
		api.Step{At: 1, Server: "z", No: 9}, api.Step{At: 2, Server: "a", No: 7}, api.Step{At: 2, Server: "a", No: 10},
		api.Step{At: 2, Server: "a-", No: 1}, api.Step{At: 2, Server: "b", No: 1}, api.Step{At: 10, Server: "a", No: 1})
	if Steps(api.Step{By: "ann", Kind: 1}, api.Step{By: "bob", Kind: 2}) != 0 {
		t.Error("more counts")
	}
}

// P5.1
func TestHealth(t *testing.T) {
	rises(t, "Health", Health, api.Health{At: 1, Node: "z"}, api.Health{At: 2, Node: "a"}, api.Health{At: 2, Node: "a-"}, api.Health{At: 2, Node: "b"}, api.Health{At: 10, Node: "a"})
	if Health(api.Health{Up: true}, api.Health{}) != 0 {
		t.Error("more counts")
	}
}

// P7.1
func TestClaims(t *testing.T) {
	rises(t, "Claims", Claims,
		api.Claim{At: 1, Node: "z", Name: "z"}, api.Claim{At: 2, Node: "a", Name: "y"}, api.Claim{At: 2, Node: "a", Name: "z"},
		api.Claim{At: 2, Node: "a-", Name: "a"}, api.Claim{At: 2, Node: "b", Name: "a"}, api.Claim{At: 10, Node: "a", Name: "a"})
	if Claims(api.Claim{Value: api.Attr{Kind: 1}}, api.Claim{}) != 0 {
		t.Error("more counts")
	}
}

// P7.6
func TestAskings(t *testing.T) {
	rises(t, "Askings", Askings,
		api.Asking{At: 1, Key: "z", By: "z"}, api.Asking{At: 2, Key: "a", By: "y"}, api.Asking{At: 2, Key: "a", By: "z"},
		api.Asking{At: 2, Key: "a-", By: "a"}, api.Asking{At: 2, Key: "b", By: "a"}, api.Asking{At: 10, Key: "a", By: "a"})
	if Askings(api.Asking{Kind: 1, Node: "n"}, api.Asking{Kind: 2, Long: 3}) != 0 {
		t.Error("more counts")
	}
}

// P3.1, P7.6
func TestFacts(t *testing.T) {
	rises(t, "Facts", Facts,
		api.Fact{Node: "m", Posture: "z"}, api.Fact{Node: "n", Posture: "a"}, api.Fact{Node: "n", Posture: "a-"}, api.Fact{Node: "n", Posture: "b"}, api.Fact{Node: "n-", Posture: "a"})
}
