package flow_test

import (
	"fmt"
	"testing"

	"holloway/api"
	"holloway/flow"
	"holloway/rule"
)

// P9.3
func TestRefused(t *testing.T) {
	const f, g = "6 10.0.0.1 10.0.0.2 9 80", "6 10.0.0.2 10.0.0.1 80 9"
	const web = "allow user:ann -> user:bob;80 proto 6"
	for _, c := range []struct {
		policy, l string
		want      []int
	}{
		{"", "", nil},
		{"", "5 b in " + f + " 1 1", []int{0}},
		{web, "5 b in " + f + " 1 1", nil},
		// Who sends tells nothing, and who is not at the end of the flow neither.
		{"", "5 a out " + f + " 1 1", nil},
		{"", "5 a in " + f + " 1 1; 5 b out " + f + " 1 1; 5 c in " + f + " 1 1; 5 z in " + f + " 1 1", nil},
		{"", "5 a in " + f + " 1 1; 5 a out " + f + " 1 1; 5 b in " + f + " 1 1; 5 c in " + f + " 1 1; 6 b in " + f + " 1 1", []int{2, 4}},
		{"", "5 b in 6 10.9.9.9 10.0.0.2 9 80 1 1", []int{0}},
		{"allow net:10.9.0.0/16 -> user:bob", "5 b in 6 10.9.9.9 10.0.0.2 9 80 1 1", nil},
		// What answers is permitted: the ports are exchanged, too.
		{web, "5 a in " + g + " 1 1; 5 b in " + f + " 1 1", nil},
		{web, "5 a in 6 10.0.0.2 10.0.0.1 9 80 1 1; 5 b in 6 10.0.0.1 10.0.0.2 80 9 1 1", []int{0, 1}},
		{web, "5 a in 17 10.0.0.2 10.0.0.1 80 9 1 1; 5 b in 17 10.0.0.1 10.0.0.2 9 80 1 1", []int{0, 1}},
		{web, "5 b in 6 10.0.0.3 10.0.0.2 9 80 1 1", []int{0}},
		// Postures, and the tests of the policy.
		{web + " if p", "5 b in " + f + " 1 1", nil},
		{web + " if q", "5 b in " + f + " 1 1", []int{0}},
		{web + "; deny " + f, "5 b in " + f + " 1 1", nil},
		{"accept " + f, "5 b in " + f + " 1 1", []int{0}},
	} {
		s := api.Scene{Nodes: three(), Policy: policy(c.policy), Facts: []api.Fact{{Node: "a", Posture: "p"}}}
		is(t, c.policy+": "+c.l, all(flow.Refused(s, reports(c.l))), all(c.want, api.OK))
	}
}

// P9.3: many flows
func TestRefusedAndFull(t *testing.T) {
	s := api.Scene{Nodes: three(), Policy: policy("allow user:ann -> user:bob;1000-1999 proto 6; allow user:bob -> user:ann;5000 proto 6")}
	var l []api.Report
	var want []int
	for i := range api.MaxReports {
		f := api.Flow{Proto: 6, From: ip("10.0.0.1"), To: ip("10.0.0.2"), FromPort: 5_000, ToPort: i}
		if i%2 == 0 {
			f.FromPort = 4_999
		}
		l = append(l, api.Report{Hour: i, Node: "b", Flow: f, Packets: 1})
		if i%2 == 0 && i/1_000 != 1 {
			want = append(want, i)
		}
	}
	is(t, "full", all(flow.Refused(s, l)), all(want, api.OK))
}

// P9.3: random reports
func TestRefusedOfMany(t *testing.T) {
	r := newChance(9)
	count := [2]int{}
	for range 500 {
		n := r.nodes()
		s, l := r.scene(n), r.reports(n)
		var want []int
		for i, x := range l {
			if x.Out || ownerOf(n, x.Flow.To) != x.Node {
				continue
			}
			there, _ := rule.Permits(s, x.Flow)
			f := x.Flow
			f.From, f.To, f.FromPort, f.ToPort = f.To, f.From, f.ToPort, f.FromPort
			back, _ := rule.Permits(s, f)
			if there || back {
				count[0]++
			} else {
				count[1]++
				want = append(want, i)
			}
		}
		is(t, fmt.Sprint(s, l), all(flow.Refused(s, l)), all(want, api.OK))
	}
	if min(count[0], count[1]) < 150 {
		t.Error(count)
	}
}
