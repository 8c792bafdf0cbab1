package posture_test

import (
	"cmp"
	"fmt"
	"slices"
	"strings"
	"testing"

	"holloway/api"
	"holloway/posture"
)

// root needs two of three, who can wait for 100 seconds, for at most 50; solo needs one.
var root = accesses("root 2 100 50 ann bob cid; solo 1 10 345686400 ann; toor 1 345686400 5 bob")

// P7.6: which askings are refused, and why.
func TestRefused(t *testing.T) {
	const ask = "10 q dan for n root 30; "
	for l, want := range map[string]string{
		"": "", ask: "",
		// AskFor
		ask + "11 q dan for n root 30": "1 6", ask + "11 q ann for m none 99": "1 6", ask + "11 r dan for n root 30": "", "10 q dan for n none 30": "0 8", "10 q dan for n none 99": "0 8", "10 q dan for n root 50": "", "10 q dan for n root 51": "0 16",
		"10 q dan for n root 51; 11 q dan for n root 50": "0 16", "10 q dan for n solo 345686400": "", ask + "11 q dan no; 12 q dan for n root 30": "2 6", ask + "200 q dan for n root 30": "1 6",
		// without a request
		"10 q ann yes": "0 8", "10 q ann no": "0 8", "10 q ann stop": "0 8", ask + "11 r ann yes; 12 r ann no; 13 r ann stop": "1 8; 2 8; 3 8", "10 q dan for n root 51; 11 q ann yes": "0 16; 1 8", "9 q ann yes; " + ask: "0 8", "10 q ann yes; " + ask: "0 8",
		// AskYes
		ask + "11 q ann yes": "", ask + "10 q eve yes": "1 16", ask + "11 q dan yes": "1 16", ask + "11 q ann yes; 12 q ann yes": "2 6", ask + "11 q ann yes; 12 q bob yes; 13 q cid yes": "3 11", ask + "109 q ann yes": "", ask + "110 q ann yes": "1 11", ask + "110 q eve yes": "1 11",
		ask + "11 q ann no; 12 q bob yes": "2 11", ask + "11 q ann yes; 12 q bob yes; 43 q ann yes": "3 11", ask + "11 q ann yes; 110 q ann yes": "2 11", "10 q ann for n root 30; 11 q ann yes; 12 q bob yes; 13 q bob yes": "1 16; 3 6", "10 q ann for n solo 5; 11 q ann yes": "1 16",
		"10 q dan for n toor 5; 345686399 q bob yes": "",
		// AskNo
		ask + "11 q ann no": "", ask + "11 q dan no": "", ask + "11 q eve no": "1 16", ask + "11 q ann no; 12 q ann no": "2 11", ask + "109 q dan no": "", ask + "110 q dan no": "1 11", ask + "110 q eve no": "1 11", ask + "11 q ann yes; 12 q ann no; 13 q bob yes": "3 11", ask + "11 q ann yes; 12 q bob yes; 13 q ann no": "3 11",
		// AskStop
		ask + "11 q ann stop": "1 11", ask + "11 q eve stop": "1 11", ask + "11 q ann yes; 12 q bob yes; 13 q cid stop": "", ask + "11 q ann yes; 12 q bob yes; 13 q dan stop": "", ask + "11 q ann yes; 12 q bob yes; 13 q eve stop": "3 16", ask + "11 q ann yes; 12 q bob yes; 12 q cid stop": "",
		ask + "11 q ann yes; 12 q bob yes; 41 q ann stop": "", ask + "11 q ann yes; 12 q bob yes; 42 q ann stop": "3 11", ask + "11 q ann yes; 12 q bob yes; 42 q eve stop": "3 11", ask + "11 q ann yes; 12 q bob yes; 13 q ann stop; 14 q ann stop": "4 11", ask + "11 q ann yes; 12 q bob yes; 12 q cid stop; 12 q dan stop": "4 11",
		ask + "11 q ann no; 12 q ann stop": "2 11", ask + "110 q ann stop": "1 11",
		// What is refused changes nothing.
		ask + "11 q eve yes; 12 q ann yes; 13 q eve no; 14 q bob yes; 15 q eve stop; 16 q ann stop": "1 16; 3 16; 5 16", "10 q dan for n root 51; 11 r dan for n root 5; 12 r eve stop; 13 r ann yes; 13 r bob yes; 17 r ann stop": "0 16; 2 11",
	} {
		refusals := parts(want, func(w []string) api.Refusal {
			return api.Refusal{Step: number(w[0]), Why: api.Errno(number(w[1]))}
		})
		is(t, l, all(posture.Refused(root, askings(l))), all(refusals, api.OK))
	}
}

// request makes a request of a state, Yes, From and To, for what dan asks for in a test.
func request(s string) []api.Request {
	return parts(s, func(w []string) api.Request {
		return api.Request{Key: "q", By: "dan", Node: "n", Posture: "root", State: slices.Index(words("waits lapsed denied given over"), w[0]) + 1, Yes: number(w[1]), From: number(w[2]), To: number(w[3])}
	})
}

// P7.6: what requests are at a moment.
func TestRequests(t *testing.T) {
	const ask = "10 q dan for n root 30; 11 q ann yes; "
	for _, c := range []struct {
		l, want string // the parts of it are those of the moments
		at      []int
	}{
		{ask, "", []int{0, 9}},
		{ask, "waits 0 0 0", []int{10}},
		{ask, "waits 1 0 0", []int{11, 50, 109}},
		{ask, "lapsed 1 0 0", []int{110, 5_000, api.End - 1}},
		{ask + "20 q bob yes", "waits 1 0 0", []int{19}},
		{ask + "20 q bob yes", "given 2 20 50", []int{20, 49}},
		{ask + "20 q bob yes", "over 2 20 50", []int{50, 109, 110, api.End - 1}},
		{ask + "109 q bob yes", "given 2 109 139", []int{109, 110, 138}},
		{ask + "109 q bob yes", "over 2 109 139", []int{139}},
		{ask + "110 q bob yes", "lapsed 1 0 0", []int{110}},
		{ask + "20 q bob no", "waits 1 0 0", []int{19}},
		{ask + "20 q bob no", "denied 1 0 0", []int{20, 110, api.End - 1}},
		{ask + "20 q dan no; 21 q bob yes", "denied 1 0 0", []int{20, 21}},
		{ask + "20 q bob yes; 30 q dan stop", "given 2 20 50", []int{20, 29}},
		{ask + "20 q bob yes; 30 q dan stop", "over 2 20 30", []int{30, 49, 50}},
		{ask + "20 q bob yes; 20 q dan stop", "over 2 20 20", []int{20, 21}},
		{ask + "20 q bob yes; 21 q cid yes; 22 q cid no", "given 2 20 50", []int{22}},
		{"345686390 q dan for n root 50; 345686391 q ann yes; 345686392 q bob yes", "given 2 345686392 345686400", []int{api.End - 8, api.End - 1}},
		{"345686390 q dan for n root 8; 345686391 q ann yes; 345686391 q bob yes", "given 2 345686391 345686399", []int{api.End - 2}},
		{"345686390 q dan for n root 8; 345686391 q ann yes; 345686391 q bob yes", "over 2 345686391 345686399", []int{api.End - 1}},
		{"345686390 q dan for n root 8", "waits 0 0 0", []int{api.End - 1}},
		{"345686300 q dan for n root 8", "waits 0 0 0", []int{api.End - 1}},
		{"345686299 q dan for n root 8", "lapsed 0 0 0", []int{api.End - 1}},
	} {
		for _, at := range c.at {
			is(t, fmt.Sprint(c.l, " at ", at), all(posture.Requests(root, askings(c.l), at)), all(request(c.want), api.OK))
		}
	}
	several := askings("5 c ann for m root 5; 6 a bob for n solo 7; 6 b bob for n none 7; 7 a- ann for n toor 5; 8 a ann yes; 345686399 a- bob yes")
	is(t, "by their keys", all(posture.Requests(root, several, api.End-1)), all([]api.Request{
		{Key: "a", By: "bob", Node: "n", Posture: "solo", State: api.RequestOver, Yes: 1, From: 8, To: 15},
		{Key: "a-", By: "ann", Node: "n", Posture: "toor", State: api.RequestGiven, Yes: 1, From: api.End - 1, To: api.End},
		{Key: "c", By: "ann", Node: "m", Posture: "root", State: api.RequestLapsed},
	}, api.OK))
}

// P7.6
func TestGiven(t *testing.T) {
	solo := accesses("a 1 10 99 ann; b 1 10 99 ann")
	// Each request is given at its moment, for its time.
	made := func(s string) []api.Asking {
		return slices.Concat(parts(s, func(w []string) []api.Asking {
			return askings(w[0] + " " + w[1] + " a for " + strings.Join(w[2:], " ") + "; " + w[0] + " " + w[1] + " ann yes")
		})...)
	}
	for _, c := range []struct {
		l     []api.Asking
		at    int
		given string
		next  int
	}{
		{nil, 0, "", 0},
		{made("5 q n a 10"), 0, "", 5}, {made("5 q n a 10"), 4, "", 5}, {made("5 q n a 10"), 5, "n a", 15}, {made("5 q n a 10"), 14, "n a", 15}, {made("5 q n a 10"), 15, "", 0},
		{append(made("5 q n a 10"), askings("9 q ann stop")...), 5, "n a", 9}, {append(made("5 q n a 10"), askings("9 q ann stop")...), 9, "", 0}, {append(made("5 q n a 10"), askings("5 q zed stop")...), 0, "", 5},
		// For no time at all.
		{askings("5 q zed for n a 9; 6 q ann yes; 6 q zed stop"), 0, "", 0}, {askings("5 q zed for n a 9; 6 q ann yes; 6 q zee stop"), 0, "", 6},
		// By several requests, which go on from each other, or not.
		{made("5 q n a 10; 7 r n a 10"), 5, "n a", 17}, {made("5 q n a 10; 7 r n a 10"), 16, "n a", 17}, {made("5 q n a 10; 7 r n a 3"), 5, "n a", 15}, {made("5 q n a 10; 15 r n a 10"), 5, "n a", 25}, {made("5 q n a 10; 16 r n a 10"), 5, "n a", 15}, {made("5 q n a 10; 16 r n a 10"), 15, "", 16}, {made("5 q n a 10; 5 r n a 20; 6 s n a 5"), 7, "n a", 25}, {made("5 q n a 30; 6 r n a 5; 20 s n a 5"), 5, "n a", 35},
		// Of several facts.
		{made("5 q n b 10; 6 r n a 10; 7 s m b 2"), 7, "m b; n a; n b", 9}, {made("5 q n b 10; 6 r n a 10; 7 s m b 2"), 9, "n a; n b", 15}, {made("5 q n b 10; 6 r n a 10; 7 s m b 2"), 5, "n b", 6}, {made("5 q n b 10; 15 r n a 10"), 5, "n b", 15}, {made("5 q n b 10; 15 r n a 10"), 15, "n a", 25}, {made("5 q na b 10; 6 r n b 10"), 6, "n b; na b", 15},
		// Up to the end.
		{made("345686390 q n a 99"), api.End - 1, "n a", 0}, {made("345686390 q n a 9"), api.End - 2, "n a", api.End - 1}, {made("345686390 q n a 10"), api.End - 2, "n a", 0}, {made(last + " q n a 9"), 0, "", api.End - 1}, {made("0 q n a 9"), 0, "n a", 9},
	} {
		is(t, fmt.Sprint("Given ", c.l, c.at), all(posture.Given(solo, c.l, c.at)), all(facts(c.given), api.OK))
		is(t, fmt.Sprint("NextEnd ", c.l, c.at), all(posture.NextEnd(solo, c.l, c.at)), all(c.next, c.next > 0, api.OK))
	}
}

// requestsOf tells once more what requests are at a moment behind askings that are followed: it looks for what was said of each one.
func requestsOf(r []api.Access, followed []api.Asking, at int) []api.Request {
	var out []api.Request
	for _, x := range followed {
		if x.Kind != api.AskFor || x.At > at {
			continue
		}
		access := r[slices.IndexFunc(r, func(a api.Access) bool { return a.Posture == x.Posture })]
		q := api.Request{Key: x.Key, By: x.By, Node: x.Node, Posture: x.Posture, State: api.RequestWaits}
		if at >= x.At+access.Wait {
			q.State = api.RequestLapsed
		}
		for _, y := range followed {
			if y.Key != x.Key || y.At > at {
				continue
			}
			switch y.Kind {
			case api.AskYes:
				q.Yes++
				if q.Yes == access.Need {
					q.From, q.To, q.State = y.At, min(api.End, y.At+x.Long), api.RequestGiven
				}
			case api.AskNo:
				q.State = api.RequestDenied
			case api.AskStop:
				q.To = y.At
			}
		}
		if q.State == api.RequestGiven && at >= q.To {
			q.State = api.RequestOver
		}
		out = append(out, q)
	}
	slices.SortFunc(out, func(x, y api.Request) int { return strings.Compare(x.Key, y.Key) })
	return out
}

// refusalOf tells once more why an asking is refused behind those that are followed.
func refusalOf(r []api.Access, followed []api.Asking, x api.Asking) api.Errno {
	requests := requestsOf(r, followed, x.At)
	i := slices.IndexFunc(requests, func(q api.Request) bool { return q.Key == x.Key })
	of := func(p string) int { return slices.IndexFunc(r, func(a api.Access) bool { return a.Posture == p }) }
	if x.Kind == api.AskFor {
		switch {
		case i >= 0:
			return api.ErrTwice
		case of(x.Posture) < 0:
			return api.ErrNone
		case x.Long > r[of(x.Posture)].Most:
			return api.ErrRule
		}
		return api.OK
	}
	if i < 0 {
		return api.ErrNone
	}
	q := requests[i]
	approver := slices.Contains(r[of(q.Posture)].Approvers, x.By)
	own := x.By == q.By
	needs := map[int]int{api.AskYes: api.RequestWaits, api.AskNo: api.RequestWaits, api.AskStop: api.RequestGiven}
	switch {
	case q.State != needs[x.Kind]:
		return api.ErrState
	case x.Kind == api.AskYes && (own || !approver), !own && !approver:
		return api.ErrRule
	case x.Kind == api.AskYes && slices.ContainsFunc(followed, func(y api.Asking) bool { return y.Key == x.Key && y.By == x.By && y.Kind == api.AskYes }):
		return api.ErrTwice
	}
	return api.OK
}

// P7.6: random askings are held against a second telling.
func TestRequestsOfMany(t *testing.T) {
	r := newChance(9)
	states, errors := map[int]int{}, map[api.Errno]int{}
	for range 600 {
		access, l := r.accesses(), r.askings()
		var followed []api.Asking
		var refused []api.Refusal
		for i, x := range l {
			if e := refusalOf(access, followed, x); e != api.OK {
				refused = append(refused, api.Refusal{Step: i, Why: e})
				errors[e]++
			} else {
				followed = append(followed, x)
			}
		}
		is(t, "Refused", all(posture.Refused(access, l)), all(refused, api.OK))
		const end = until + 15
		seconds := repeat(end, func(at int) []api.Fact {
			var out []api.Fact
			want := requestsOf(access, followed, at)
			is(t, fmt.Sprint(access, l, at), all(posture.Requests(access, l, at)), all(want, api.OK))
			for _, q := range want {
				states[q.State]++
				if q.State == api.RequestGiven {
					out = append(out, api.Fact{Node: q.Node, Posture: q.Posture})
				}
			}
			slices.SortFunc(out, func(x, y api.Fact) int {
				return cmp.Or(strings.Compare(x.Node, y.Node), strings.Compare(x.Posture, y.Posture))
			})
			return slices.Compact(out)
		})
		for at, want := range seconds {
			is(t, fmt.Sprint(access, l, at), all(posture.Given(access, l, at)), all(want, api.OK))
			next := at + 1
			for next < end && slices.Equal(seconds[next], seconds[next-1]) {
				next++
			}
			if next == end {
				next = 0
			}
			is(t, fmt.Sprint(access, l, at), all(posture.NextEnd(access, l, at)), all(next, next > 0, api.OK))
		}
	}
	for _, e := range []api.Errno{api.ErrTwice, api.ErrNone, api.ErrRule, api.ErrState} {
		if errors[e] < 100 {
			t.Error(errors)
		}
	}
	for state := api.RequestWaits; state <= api.RequestOver; state++ {
		if states[state] < 100 {
			t.Error(states)
		}
	}
}

// P7.6: as many requests as there can be.
func TestManyRequests(t *testing.T) {
	const n = api.MaxAskings / 2
	access := []api.Access{{Posture: "p", Approvers: repeat(api.MaxUsers, key), Need: 1, Wait: api.End, Most: api.End}}
	l := repeat(n, func(i int) api.Asking {
		return api.Asking{At: i, Key: key(i), By: "a", Kind: api.AskFor, Node: key(i), Posture: "p", Long: n + 5}
	})
	l = append(l, repeat(n, func(i int) api.Asking {
		return api.Asking{At: n + i, Key: key(i), By: key(api.MaxUsers - 1), Kind: api.AskYes}
	})...)
	is(t, "Refused", all(posture.Refused(access, l)), all([]api.Refusal{}, api.OK))
	is(t, "Given", all(posture.Given(access, l, 2*n-1)), all(repeat(n, func(i int) api.Fact { return api.Fact{Node: key(i), Posture: "p"} }), api.OK))
	is(t, "NextEnd", all(posture.NextEnd(access, l, 2*n-1)), all(2*n+5, true, api.OK))
}

// P7.6, Z4, Z6
func TestErrorsOfRequests(t *testing.T) {
	steps := []step{
		{api.ErrArg, func(in *input) { in.access = nil }},
		{api.ErrKind, func(in *input) { in.askings = nil }},
	}
	ladder(t, "CheckAccess", steps[0])
	ladder(t, "CheckAskings", steps[1])
	ladder(t, "Refused", steps...)
	for _, name := range words("Requests Given NextEnd") {
		ladder(t, name, append(steps, step{api.ErrArg, func(in *input) { in.at = 0 }})...)
		for _, n := range wrongNumbers(0, api.End-1) {
			is(t, name, errnoOf(callOf(name)(input{at: n})), api.ErrArg)
		}
	}
}
