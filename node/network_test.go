package node_test

import (
	"fmt"
	"math/rand"
	"slices"
	"strings"
	"testing"

	"holloway/api"
	"holloway/node"
)

// base is a log of which each step is followed with the directory office(100, true).
func base() []api.Step {
	return log(
		"5 join ann n1 - 0a laptop", "6 join cid n2 - 0b desk", "7 key bob k1 db 50 2 yes", "8 key cid k2 - 60 1000 no", "9 key ann k3 web 345686400 1 no",
		"10 join - n3 k1 0c store", "11 join - n4 k2 0d door", "12 join - n5 k3 0e shop", "13 tag ann n5 ops,web", "14 key ann k4 - 90 9 yes", "15 revoke ann k4",
		"16 join ann n6 - 0f lost", "17 gone ann n6", "18 approve bob n1",
	)
}

// P2.3
func TestFollowed(t *testing.T) {
	is(t, "Refused", all(node.Refused(office(100, true), base())), all([]api.Refusal{}, api.OK))
}

// P2.3, Z4: the first error that applies, for a step behind the base.
func TestRefusals(t *testing.T) {
	for _, c := range []struct {
		line string
		e    api.Errno
	}{
		{"20 key dan k9 web 30 1 yes", api.ErrNone}, {"20 key dan k1 none 0 0 yes", api.ErrNone}, {"20 revoke dan k1", api.ErrNone}, {"20 approve dan n1", api.ErrNone}, {"20 renew dan n9 0a", api.ErrNone}, {"20 name dan n1 laptop", api.ErrNone}, {"20 tag dan n1 -", api.ErrNone}, {"20 expire dan n1", api.ErrNone}, {"20 gone dan n1", api.ErrNone},

		{"20 key ann k9 web 30 1 yes", api.OK}, {"20 key ann k9 - 30 1 yes", api.OK}, {"20 key ann k9 ops,web 21 1 yes", api.OK}, {"20 key ann k9 ops 345686400 1000 no", api.OK},
		{"20 key ann k1 web 30 1 yes", api.ErrTwice}, {"20 key bob k4 db 30 1 yes", api.ErrTwice}, {"20 key ann k1 none 0 0 yes", api.ErrTwice},
		{"20 key ann k9 web 30 0 yes", api.ErrArg}, {"20 key ann k9 web 30 1001 yes", api.ErrArg}, {"20 key ann k9 web 20 1 yes", api.ErrArg}, {"20 key ann k9 web 0 1 yes", api.ErrArg}, {"20 key ann k9 web 345686401 1 yes", api.ErrArg}, {"20 key ann k9 none 30 0 yes", api.ErrArg}, {"20 key ann k9 none 20 1 yes", api.ErrArg},
		{"20 key ann k9 none 30 1 yes", api.ErrNone}, {"20 key ann k9 db 30 1 yes", api.ErrRule}, {"20 key ann k9 db,none 30 1 yes", api.ErrRule}, {"20 key bob k9 db,none,web 30 1 yes", api.ErrNone}, {"20 key ann k9 old 30 1 yes", api.ErrRule}, {"20 key cid k9 ops 30 1 yes", api.ErrRule},

		{"20 revoke bob k1", api.OK}, {"20 revoke cid k2", api.OK}, {"20 revoke bob k9", api.ErrNone}, {"20 revoke ann k1", api.ErrRule}, {"20 revoke bob k4", api.ErrRule}, {"20 revoke ann k4", api.ErrState}, {"99 revoke bob k1", api.OK},

		{"20 join ann n9 - 9 x", api.OK}, {"20 join - n9 k1 9 x", api.OK}, {"49 join - n9 k1 9 x", api.OK}, {"20 join ann n9 - 0f lost", api.OK},
		{"20 join - n9 - 9 x", api.ErrForm}, {"20 join ann n9 k1 9 x", api.ErrForm}, {"20 join dan n1 k9 0a x", api.ErrForm}, {"20 join dan n9 - 9 x", api.ErrNone}, {"20 join dan n1 - 0a x", api.ErrNone}, {"20 join - n9 k9 9 x", api.ErrNone}, {"20 join - n1 k9 0a x", api.ErrNone},
		{"20 join - n9 k4 9 x", api.ErrState}, {"20 join - n1 k4 0a x", api.ErrState}, {"50 join - n9 k1 9 x", api.ErrState}, {"51 join - n9 k1 9 x", api.ErrState}, {"20 join - n9 k3 9 x", api.ErrFull}, {"20 join - n1 k3 0a x", api.ErrFull},
		{"20 join ann n1 - 9 x", api.ErrTwice}, {"20 join ann n6 - 9 x", api.ErrTwice}, {"20 join cid n1 - 0a x", api.ErrTwice}, {"20 join - n1 k1 9 x", api.ErrTwice}, {"20 join ann n9 - 0a x", api.ErrConflict}, {"20 join - n9 k1 0e x", api.ErrConflict},

		{"20 approve cid n2", api.OK}, {"20 approve ann n2", api.OK}, {"20 approve ann n5", api.OK}, {"20 approve ann n4", api.OK}, {"20 approve ann n1", api.ErrState}, {"20 approve cid n3", api.ErrState}, {"20 approve ann n6", api.ErrNone}, {"20 approve ann n9", api.ErrNone},

		{"20 renew ann n1 9", api.OK}, {"999 renew ann n1 9", api.OK}, {"20 renew bob n5 9", api.OK}, {"20 renew bob n3 0f", api.OK}, {"20 renew cid n4 9", api.OK}, {"20 renew ann n9 9", api.ErrNone}, {"20 renew ann n6 9", api.ErrNone}, {"20 renew bob n1 9", api.ErrRule}, {"20 renew bob n1 0a", api.ErrRule}, {"20 renew ann n3 9", api.ErrRule}, {"20 renew ann n1 0b", api.ErrConflict}, {"20 renew ann n1 0a", api.ErrConflict},

		{"20 name ann n1 x", api.OK}, {"20 name ann n1 desk", api.OK}, {"20 name ann n1 laptop", api.ErrTwice}, {"20 name ann n6 lost", api.ErrNone}, {"20 name cid n1 laptop", api.ErrRule}, {"20 name bob n5 x", api.OK}, {"20 name cid n5 x", api.ErrRule},

		{"20 tag ann n1 web", api.OK}, {"20 tag ann n1 ops,web", api.OK}, {"20 tag ann n5 ops,web", api.OK}, {"20 tag bob n5 db", api.OK}, {"20 tag ann n1 -", api.ErrForm}, {"20 tag bob n1 -", api.ErrRule}, {"20 tag ann n9 -", api.ErrNone}, {"20 tag ann n1 none", api.ErrNone}, {"20 tag ann n1 db", api.ErrRule}, {"20 tag ann n1 db,none", api.ErrRule}, {"20 tag cid n2 web", api.ErrRule},

		{"20 expire ann n1", api.OK}, {"104 expire ann n1", api.OK}, {"105 expire ann n1", api.ErrState}, {"106 expire ann n1", api.ErrState}, {"20 expire bob n1", api.ErrRule}, {"106 expire bob n1", api.ErrRule}, {"20 expire cid n2", api.OK}, {"345686399 expire bob n3", api.OK}, {"20 expire ann n6", api.ErrNone},

		{"20 gone ann n1", api.OK}, {"999 gone ann n1", api.OK}, {"20 gone bob n5", api.OK}, {"20 gone ann n5", api.OK}, {"20 gone cid n5", api.ErrRule}, {"20 gone ann n6", api.ErrNone}, {"20 gone ann n9", api.ErrNone}, {"20 gone ann n2", api.ErrRule},
	} {
		d, l := office(100, true), base()
		s := step(c.line)
		s.No = 77
		is(t, c.line, all(node.Why(d, l, s)), all(c.e, api.OK))
		want := []api.Refusal{{Step: len(l), Why: c.e}}
		if c.e == api.OK {
			want = nil
		}
		is(t, c.line, all(node.Refused(d, append(l, s))), all(want, api.OK))
	}
}

// P2.3: what steps lead to.
func TestWhatStepsDo(t *testing.T) {
	m := func(node, user, name, public, list string, joined, expires int, approved bool) api.Machine {
		x := api.Machine{Node: node, User: user, Name: name, Public: public, Joined: joined, Expires: expires, Approved: approved}
		if list != "" {
			x.Tags = strings.Split(list, ",")
		}
		return x
	}
	for _, c := range []struct {
		approve bool
		lines   string
		want    api.Machine
	}{
		{false, "5 join ann n - 0a laptop", m("n", "ann", "laptop", "0a", "", 5, 105, true)},
		{true, "5 join ann n - 0a laptop", m("n", "ann", "laptop", "0a", "", 5, 105, false)},
		{true, "5 join ann n - 0a laptop; 9 approve cid n", m("n", "ann", "laptop", "0a", "", 5, 105, true)},
		{true, "5 key bob k db 9 1 yes; 8 join - n k 0a laptop", m("n", "", "laptop", "0a", "db", 8, api.End, true)},
		{true, "5 key bob k db 9 1 no; 8 join - n k 0a laptop", m("n", "", "laptop", "0a", "db", 8, api.End, false)},
		{false, "5 key bob k db 9 1 no; 8 join - n k 0a laptop", m("n", "", "laptop", "0a", "db", 8, api.End, true)},
		{true, "5 key bob k - 9 1 yes; 8 join - n k 0a laptop", m("n", "bob", "laptop", "0a", "", 8, 108, true)},
		{false, "5 join ann n - 0a laptop; 50 renew ann n 0b", m("n", "ann", "laptop", "0b", "", 5, 150, true)},
		{false, "5 join ann n - 0a laptop; 500 renew ann n 0b", m("n", "ann", "laptop", "0b", "", 5, 600, true)},
		{false, "5 join ann n - 0a laptop; 50 name ann n x", m("n", "ann", "x", "0a", "", 5, 105, true)},
		{false, "5 join ann n - 0a laptop; 50 tag ann n web", m("n", "", "laptop", "0a", "web", 5, api.End, true)},
		{false, "5 join ann n - 0a laptop; 500 tag ann n ops,web", m("n", "", "laptop", "0a", "ops,web", 5, api.End, true)},
		{false, "5 join ann n - 0a laptop; 50 tag ann n ops,web; 60 tag bob n db", m("n", "", "laptop", "0a", "db", 5, api.End, true)},
		{false, "5 join ann n - 0a laptop; 50 tag ann n web; 60 renew ann n 0b", m("n", "", "laptop", "0b", "web", 5, api.End, true)},
		{false, "5 join ann n - 0a laptop; 50 expire ann n", m("n", "ann", "laptop", "0a", "", 5, 50, true)},
		{false, "5 join ann n - 0a laptop; 50 tag ann n web; 60 expire ann n", m("n", "", "laptop", "0a", "web", 5, 60, true)},
		{false, "5 join ann n - 0a laptop; 50 tag ann n web; 60 expire ann n; 70 renew ann n 0b", m("n", "", "laptop", "0b", "web", 5, api.End, true)},
		{false, "5 join ann n - 0a laptop; 50 tag ann n web; 60 expire ann n; 70 tag ann n ops", m("n", "", "laptop", "0a", "ops", 5, api.End, true)},
		{false, "5 join ann n - 0a laptop; 50 expire ann n; 60 expire ann n; 60 renew ann n 0b; 70 expire ann n", m("n", "ann", "laptop", "0b", "", 5, 70, true)},
		{false, "345686300 join ann n - 0a laptop", m("n", "ann", "laptop", "0a", "", api.End-100, api.End, true)},
		{false, "345686299 join ann n - 0a laptop", m("n", "ann", "laptop", "0a", "", api.End-101, api.End-1, true)},
		{false, "345686399 join ann n - 0a laptop", m("n", "ann", "laptop", "0a", "", api.End-1, api.End, true)},
	} {
		l := log(strings.Split(c.lines, ";")...)
		is(t, c.lines, all(node.StateOf(office(100, c.approve), l, "n", api.End-1)), all(c.want, true, api.OK))
	}
}

// P2.3: there can be MaxNodes nodes, and those that are gone do not count.
func TestFullNetwork(t *testing.T) {
	d := office(100, false)
	l := repeat(api.MaxNodes, func(i int) api.Step { return by("s", i+1, fmt.Sprintf("%d join ann n%d - %d x", i, i, i)) })
	is(t, "Refused", all(node.Refused(d, l)), all([]api.Refusal{}, api.OK))
	more := by("s", 1_000, "600 join ann more - ff x")
	is(t, "Why", all(node.Why(d, l, more)), all(api.ErrLarge, api.OK))
	twice, conflict := more, more
	twice.Node, conflict.Public = "n7", "7"
	is(t, "Why", all(node.Why(d, l, twice)), all(api.ErrTwice, api.OK))
	is(t, "Why", all(node.Why(d, l, conflict)), all(api.ErrConflict, api.OK))
	l = append(l, by("s", 999, "599 gone ann n7"))
	is(t, "Why", all(node.Why(d, l, more)), all(api.OK, api.OK))
	machines, e := node.Machines(d, append(l, more), 700)
	is(t, "Machines", all(len(machines), e), all(api.MaxNodes, api.OK))
}

// P2.3
func TestUsesOfKeys(t *testing.T) {
	d := office(100, false)
	l := []api.Step{by("s", 1, "0 key ann k - 9999 1000 yes")}
	for i := range 1_001 {
		l = append(l, by("s", i+2, fmt.Sprintf("%d join - n%d k %d x", i+1, i, i)))
		if i < 600 { // so that there is room
			l = append(l, by("t", i+2, fmt.Sprintf("%d gone ann n%d", i+1, i)))
		}
	}
	is(t, "Refused", all(node.Refused(d, l)), all([]api.Refusal{{Step: len(l) - 1, Why: api.ErrFull}}, api.OK))
	for _, at := range []int{0, 1, 700, 1_000, 5_000, 9_998} {
		joins, e := node.Joins(d, l, at)
		is(t, "Joins", all(joins[0].Left, e), all(1_000-min(at, 1_000), api.OK))
	}
}

// P2.3: the second error of Why.
func TestErrorsOfWhy(t *testing.T) {
	d, l := office(100, false), []api.Step{by("b", 2, "5 join ann n1 - 0a x"), by("b", 1, "7 name ann n1 y")}
	for _, c := range []struct {
		name string
		s    api.Step
		e    api.Errno
	}{
		{"behind", by("c", 1, "7 gone ann n1"), api.OK},
		{"a greater number", by("b", 3, "7 gone ann n1"), api.OK},
		{"a smaller number later", by("a", 1, "8 gone ann n1"), api.OK},
		{"a lesser server", by("a", 1, "7 gone ann n1"), api.ErrOrder},
		{"an earlier moment", by("c", 1, "6 gone ann n1"), api.ErrOrder},
		{"the same", by("b", 1, "7 name ann n1 y"), api.ErrOrder},
		{"order, ahead of a number twice", by("b", 2, "5 gone ann n1"), api.ErrOrder},
		{"the last number twice", by("b", 1, "8 gone ann n1"), api.ErrTwice},
		{"an earlier number twice", by("b", 2, "7 gone ann n1"), api.ErrTwice},
		{"the form, ahead of the order", by("b", 2, "5 gone A n1"), api.ErrName},
		{"a field too much", api.Step{At: 9, Server: "s", No: 9, Kind: api.StepGone, By: "ann", Node: "n1", Uses: 1}, api.ErrForm},
		{"no moment", by("b", 9, "-1 gone ann n1"), api.ErrArg},
		{"no kind", api.Step{At: 9, Server: "s", No: 9}, api.ErrKind},
	} {
		is(t, c.name, all(node.Why(d, l, c.s)), all(api.OK, c.e))
	}
	is(t, "no steps", all(node.Why(d, nil, by("a", 1, "0 join ann n1 - 0a x"))), all(api.OK, api.OK))
	is(t, "no steps", all(node.Why(d, nil, by("a", 1, "0 gone ann n1"))), all(api.ErrNone, api.OK))
	is(t, "no steps", all(node.Why(d, nil, by("A", 1, "0 gone ann n1"))), all(api.OK, api.ErrName))
	is(t, "one step", all(node.Why(d, l[:1], by("a", 1, "5 gone ann n1"))), all(api.OK, api.ErrOrder))
	is(t, "one step", all(node.Why(d, l[:1], by("b", 2, "6 gone ann n1"))), all(api.OK, api.ErrTwice))
	full := repeat(api.MaxSteps, func(i int) api.Step { return by("s", i+1, fmt.Sprint(i, " gone ann n1")) })
	is(t, "a full log", all(node.Why(d, full, by("s", 9_999, "9999 gone ann n1"))), all(api.ErrNone, api.OK))
}

// P2.3: random logs, and a world that tells all as the document does.
func TestNetworkLikeWorld(t *testing.T) {
	r := chance{rand.New(rand.NewSource(1))}
	seen := map[[2]int]int{}
	for range 3_000 {
		d, l := r.directory(), r.log()
		w, want := worldAt(d, l, api.End)
		is(t, "Refused", all(node.Refused(d, l)), all(want, api.OK))
		for _, x := range want {
			seen[[2]int{l[x.Step].Kind, int(x.Why)}]++
		}
		for _, s := range w.done {
			seen[[2]int{s.Kind, 0}]++
		}
		s := r.step(1+r.Intn(9), 2_000)
		s.Server, s.No = "z", 1
		is(t, "Why", all(node.Why(d, l, s)), all(w.refuse(s), api.OK))
	}
	for kind, errors := range [][]api.Errno{
		api.StepKey: {api.ErrNone, api.ErrTwice, api.ErrArg, api.ErrRule}, api.StepRevoke: {api.ErrNone, api.ErrRule, api.ErrState},
		api.StepJoin: {api.ErrForm, api.ErrNone, api.ErrState, api.ErrFull, api.ErrTwice, api.ErrConflict}, api.StepApprove: {api.ErrNone, api.ErrState},
		api.StepRenew: {api.ErrNone, api.ErrRule, api.ErrConflict}, api.StepName: {api.ErrNone, api.ErrRule, api.ErrTwice}, api.StepTag: {api.ErrNone, api.ErrRule, api.ErrForm},
		api.StepExpire: {api.ErrNone, api.ErrRule, api.ErrState}, api.StepGone: {api.ErrNone, api.ErrRule},
	} {
		for _, e := range errors {
			if seen[[2]int{kind, int(e)}] < 10 {
				t.Errorf("kind %d: error %d %d times", kind, e, seen[[2]int{kind, int(e)}])
			}
		}
		if kind > 0 && seen[[2]int{kind, 0}] < 100 {
			t.Errorf("kind %d: followed %d times", kind, seen[[2]int{kind, 0}])
		}
	}
}

// P2.3: without the refused steps the others are followed, and lead to the same.
func TestWithoutRefused(t *testing.T) {
	r := chance{rand.New(rand.NewSource(2))}
	for range 500 {
		d, l := r.directory(), r.log()
		refused, _ := node.Refused(d, l)
		var rest []api.Step
		for i, s := range l {
			if !slices.ContainsFunc(refused, func(x api.Refusal) bool { return x.Step == i }) {
				rest = append(rest, s)
			}
		}
		is(t, "Refused", all(node.Refused(d, rest)), all([]api.Refusal{}, api.OK))
		at := r.Intn(300)
		is(t, "Machines", all(node.Machines(d, rest, at)), all(node.Machines(d, l, at)))
		is(t, "Joins", all(node.Joins(d, rest, at)), all(node.Joins(d, l, at)))
	}
}

// P2.3: logs that are merged in any order are the same.
func TestMergedInAnyOrder(t *testing.T) {
	r := chance{rand.New(rand.NewSource(3))}
	for range 300 {
		l := r.log()
		parts := make([][]api.Step, 4)
		for _, s := range l {
			for known := false; !known; {
				for i := range parts {
					if r.Intn(3) == 0 {
						parts[i] = append(parts[i], s)
						known = true
					}
				}
			}
		}
		for range 4 {
			r.Shuffle(len(parts), func(i, k int) { parts[i], parts[k] = parts[k], parts[i] })
			var out []api.Step
			e := api.OK
			for _, p := range parts {
				if out, e = node.Merge(out, p); e != api.OK {
					t.Fatal(e)
				}
			}
			is(t, "Merge", out, l)
		}
	}
}
