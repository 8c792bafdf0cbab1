package flow_test

import (
	"fmt"
	"testing"

	"holloway/api"
	"holloway/flow"
)

// pairings makes pairings of an hour, two nodes (- for none), what was sent, got and lost, and a flow.
func pairings(s string) []api.Pairing {
	node := func(w string) string {
		if w == "-" {
			return ""
		}
		return w
	}
	return parts(s, func(w []string) api.Pairing {
		return api.Pairing{Hour: number(w[0]), From: node(w[1]), To: node(w[2]), Sent: number(w[3]), Got: number(w[4]), Lost: number(w[5]), Flow: flowOf(w[6:])}
	})
}

// three are nodes, one of them with two addresses.
func three() []api.Node { return nodes("a ann 10.0.0.1 fd00::1; b bob 10.0.0.2; c #web 10.0.0.3") }

// P9.2
func TestPair(t *testing.T) {
	const f = "6 10.0.0.1 10.0.0.2 9 80"
	const out, in = "6 10.0.0.1 10.9.9.9 9 80", "6 10.9.9.9 10.0.0.2 9 80"
	for l, want := range map[string]string{
		"": "",
		"5 a out " + f + " 10 1000; 5 b in " + f + " 9 900": "5 a b 1000 900 1 " + f,
		"5 a out " + f + " 9 900; 5 b in " + f + " 9 1000":  "5 a b 900 1000 0 " + f,
		"5 a out " + f + " 8 900; 5 b in " + f + " 9 1000":  "5 a b 900 1000 -1 " + f,
		"5 a out " + f + " 8 0; 5 b in " + f + " 1 0":       "5 a b 0 0 7 " + f,
		// One end alone tells something.
		"5 a out " + f + " 8 900": "5 a b 900 -1 -1 " + f,
		"5 a out " + f + " 8 0":   "5 a b 0 -1 -1 " + f,
		"5 b in " + f + " 8 900":  "5 a b -1 900 -1 " + f,
		"5 b in " + f + " 8 0":    "5 a b -1 0 -1 " + f,
		// There is nobody at the other end.
		"5 a out " + out + " 8 900": "5 a - 900 -1 -1 " + out,
		"5 b in " + in + " 8 900":   "5 - b -1 900 -1 " + in,
		// Others count for nothing: those who are at no end, or at the other one.
		"5 a in " + f + " 8 900; 5 b out " + f + " 8 900; 5 c in " + f + " 8 900; 5 c out " + f + " 8 900; 5 z in " + f + " 8 900; 5 z out " + f + " 8 900": "",
		"5 a in " + f + " 1 1; 5 a out " + f + " 8 900; 5 b out " + f + " 7 7; 5 c in " + f + " 7 7; 5 z out " + f + " 7 7":                                 "5 a b 900 -1 -1 " + f,
		"5 b out " + out + " 8 900": "",
		// Hours and flows that differ are apart.
		"5 a out " + f + " 10 1000; 6 b in " + f + " 9 900":                                                              "5 a b 1000 -1 -1 " + f + "; 6 a b -1 900 -1 " + f,
		"5 a out " + f + " 10 1000; 5 b in 6 10.0.0.1 10.0.0.2 9 81 9 900":                                               "5 a b 1000 -1 -1 " + f + "; 5 a b -1 900 -1 6 10.0.0.1 10.0.0.2 9 81",
		"5 a out " + f + " 10 1000; 5 b in 6 10.0.0.1 10.0.0.2 10 80 9 900":                                              "5 a b 1000 -1 -1 " + f + "; 5 a b -1 900 -1 6 10.0.0.1 10.0.0.2 10 80",
		"5 a out " + f + " 10 1000; 5 b in 17 10.0.0.1 10.0.0.2 9 80 9 900":                                              "5 a b 1000 -1 -1 " + f + "; 5 a b -1 900 -1 17 10.0.0.1 10.0.0.2 9 80",
		"5 b in 6 10.0.0.3 10.0.0.2 9 80 9 900; 5 a out " + f + " 10 1000":                                               "",
		"5 a out " + f + " 10 1000; 5 b in 6 10.0.0.3 10.0.0.2 9 80 9 900":                                               "5 a b 1000 -1 -1 " + f + "; 5 c b -1 900 -1 6 10.0.0.3 10.0.0.2 9 80",
		"5 a out 6 10.0.0.1 10.0.0.3 9 80 1 1; 5 b out 6 10.0.0.2 10.0.0.1 0 0 2 2; 5 c out 1 10.0.0.3 10.0.0.1 0 0 3 3": "5 c a 3 -1 -1 1 10.0.0.3 10.0.0.1 0 0; 5 a c 1 -1 -1 6 10.0.0.1 10.0.0.3 9 80; 5 b a 2 -1 -1 6 10.0.0.2 10.0.0.1 0 0",
		// A node can be at both ends.
		"5 a in 6 fd00::1 fd00::1 9 80 1 1; 5 a out 6 fd00::1 fd00::1 9 80 3 3": "5 a a 3 1 2 6 fd00::1 fd00::1 9 80",
	} {
		e := api.OK
		if l == "5 b in 6 10.0.0.3 10.0.0.2 9 80 9 900; 5 a out "+f+" 10 1000" {
			e = api.ErrOrder
		}
		is(t, l, all(flow.Pair(three(), reports(l))), all(pairings(want), e))
	}
}

// whole is a pairing with both reports of it; zero, if there is none.
type whole struct {
	api.Pairing
	sent, got api.Report
}

// wholes are the pairings of reports, told another way.
func wholes(nodes []api.Node, l []api.Report) []whole {
	found := map[string]whole{}
	for _, r := range l {
		from, to := ownerOf(nodes, r.Flow.From), ownerOf(nodes, r.Flow.To)
		place := fmt.Sprintf("%06d %s", r.Hour, placeOfFlow(r.Flow))
		w, is := found[place]
		if !is {
			w.Pairing = api.Pairing{Hour: r.Hour, Flow: r.Flow, From: from, To: to, Sent: -1, Got: -1, Lost: -1}
		}
		switch {
		case r.Out && r.Node == from:
			w.sent, w.Sent = r, r.Bytes
		case !r.Out && r.Node == to:
			w.got, w.Got = r, r.Bytes
		default:
			continue
		}
		if w.Sent >= 0 && w.Got >= 0 && w.sent.Packets >= w.got.Packets {
			w.Lost = w.sent.Packets - w.got.Packets
		}
		found[place] = w
	}
	return inOrder(found)
}

// P9.2: random reports
func TestPairOfMany(t *testing.T) {
	r := newChance(3)
	both, none := 0, 0
	for range 1_000 {
		n := r.nodes()
		l := r.reports(n)
		var want []api.Pairing
		for _, w := range wholes(n, l) {
			want = append(want, w.Pairing)
			if w.Lost > 0 {
				both++
			}
			if w.From == "" || w.To == "" {
				none++
			}
		}
		is(t, fmt.Sprint(n, l), all(flow.Pair(n, l)), all(want, api.OK))
	}
	if both < 200 || none < 200 {
		t.Error(both, none)
	}
}
