package route_test

import (
	"fmt"
	"math"
	"slices"
	"testing"

	"holloway/api"
	"holloway/route"
)

// nat is a translator with many ports that last for long.
func nat(maps, lets int, a string) api.Nat {
	return api.Nat{Maps: maps, Lets: lets, Timeout: 100, First: 1, Ports: 100, Outer: ip(a)}
}

// P5.8: what translators permit, by what they look at.
func TestCan(t *testing.T) {
	const nothing, addr, port = api.SeesNothing, api.SeesAddr, api.SeesPort
	for _, c := range []struct {
		mapsA, letsA, mapsB, letsB int
		want                       api.Punched
	}{
		{nothing, nothing, nothing, nothing, api.Punched{A: 1, B: 1}},
		{nothing, port, nothing, port, api.Punched{A: 1, B: 2}},
		{nothing, addr, nothing, port, api.Punched{A: 1, B: 2}},
		{nothing, port, nothing, nothing, api.Punched{A: 1, B: 1}},
		{nothing, nothing, nothing, port, api.Punched{A: 1, B: 2}},
		// A new port that the other one does not know is let in only by one that looks at the address at most.
		{nothing, port, port, port, api.Punched{}},
		{port, port, nothing, port, api.Punched{}},
		{nothing, addr, port, port, api.Punched{A: 1, B: 2}},
		{nothing, addr, addr, port, api.Punched{A: 1, B: 2}},
		{port, port, nothing, addr, api.Punched{A: 2, B: 2}},
		{port, port, port, port, api.Punched{}},
		{port, addr, port, addr, api.Punched{}},
		// What comes of a second port is answered from a third one.
		{port, nothing, port, port, api.Punched{A: 1}},
		{port, nothing, port, addr, api.Punched{A: 1, B: 2}},
		{port, port, port, nothing, api.Punched{B: 1}},
		{port, addr, port, nothing, api.Punched{A: 1, B: 1}},
		{addr, addr, addr, addr, api.Punched{}},
		{addr, nothing, addr, nothing, api.Punched{A: 1, B: 1}},
	} {
		a, b := nat(c.mapsA, c.letsA, "99.0.0.1"), nat(c.mapsB, c.letsB, "99.0.0.2")
		is(t, fmt.Sprint(c), all(route.Can(a, b, 5)), all(c.want, api.OK))
	}
}

// P5.8, P5.7: entries that end, and ports that there are not.
func TestCanWithLittle(t *testing.T) {
	short := func(n api.Nat) api.Nat { n.Timeout = 1; return n }
	few := func(n api.Nat) api.Nat { n.Ports = 1; return n }
	a, b := nat(1, 1, "99.0.0.1"), nat(1, 1, "99.0.0.2")
	// The entry that the server has seen has ended in round 1, and comes again with another port.
	is(t, "both short", all(route.Can(short(a), short(b), 50)), all(api.Punched{}, api.OK))
	// B gets to know the other port, and sends there in the same round. A comes too late with this.
	is(t, "A short", all(route.Can(short(a), b, 50)), all(api.Punched{A: 1, B: 1}, api.OK))
	is(t, "B short", all(route.Can(a, short(b), 50)), all(api.Punched{A: 1}, api.OK))
	// With one port it comes again with this one; that of A is there when B sends.
	is(t, "both short, with one port", all(route.Can(few(short(a)), few(short(b)), 50)), all(api.Punched{A: 1}, api.OK))
	a.Timeout, b.Timeout = 2, 2
	is(t, "longer", all(route.Can(a, b, 1)), all(api.Punched{A: 1, B: 1}, api.OK))
	// The only port has the entry of the server.
	a, b = nat(3, 1, "99.0.0.1"), nat(1, 1, "99.0.0.2")
	is(t, "A has no port", all(route.Can(few(a), b, 50)), all(api.Punched{A: 1}, api.OK))
	is(t, "B has no port", all(route.Can(b, few(a), 50)), all(api.Punched{B: 1}, api.OK))
	is(t, "both have no port", all(route.Can(few(a), few(nat(3, 1, "fd00::2")), 50)), all(api.Punched{}, api.OK))
	a.Ports, a.Timeout = 1, 7
	is(t, "A has a port later", all(route.Can(a, b, 6)), all(api.Punched{A: 1}, api.OK))
	is(t, "A has a port later", all(route.Can(a, b, 7)), all(api.Punched{A: 1, B: 7}, api.OK))
}

// P5.8, Z4, Z6
func TestErrorsOfCan(t *testing.T) {
	a, b := nat(1, 1, "99.0.0.1"), nat(1, 1, "99.0.0.2")
	none := all(api.Punched{}, api.OK)
	is(t, "no rounds", all(route.Can(a, b, 0)), none)
	for _, rounds := range []int{math.MinInt, -1, api.MaxRounds + 1, math.MaxInt} {
		is(t, fmt.Sprint(rounds), all(route.Can(a, b, rounds)), all(api.Punched{}, api.ErrArg))
	}
	is(t, "the most rounds", all(route.Can(a, b, api.MaxRounds)), all(api.Punched{A: 1, B: 1}, api.OK))
	server := nat(1, 1, "1.1.1.1")
	is(t, "one address", all(route.Can(a, a, -1)), all(api.Punched{}, api.ErrConflict))
	is(t, "A is the server", all(route.Can(server, b, 1)), all(api.Punched{}, api.ErrConflict))
	is(t, "B is the server", all(route.Can(a, server, 1)), all(api.Punched{}, api.ErrConflict))
	server.Outer = ip("::101:101")
	is(t, "another length", all(route.Can(a, server, 1)), all(api.Punched{A: 1, B: 1}, api.OK))
	// The address of the nodes is no matter.
	server.Outer = ip("10.0.0.1")
	is(t, "inner", all(route.Can(a, server, 1)), all(api.Punched{A: 1, B: 1}, api.OK))
	kind := step{api.ErrKind, func(in *input) { in.n.Maps = 1 }}
	form := step{api.ErrForm, func(in *input) { in.m.Outer = ip("1.1.1.1") }}
	ladder(t, "Can", callOf("Can"), kind, step{api.ErrArg, func(in *input) { in.n = nat(1, 1, "1.1.1.1") }}, form,
		step{api.ErrConflict, func(in *input) { in.n.Outer = ip("1.1.1.2") }}, step{api.ErrConflict, func(in *input) { in.m.Outer = ip("1.1.1.3") }}, step{api.ErrArg, func(in *input) { in.rounds = 1 }})
	ladder(t, "New", callOf("New"), kind, step{api.ErrArg, func(in *input) { in.n = someNat }})
}

// canOf tells what two nodes can do: all rounds, with the tellers of translators.
func canOf(a, b api.Nat, rounds int) api.Punched {
	inner, server := spot("10.0.0.1", 1_000), spot("1.1.1.1", 3_478)
	boxes := [2]*teller{{n: a}, {n: b}}
	var knows [2][]api.Spot // of the other one
	for i, m := range boxes {
		s, _ := m.out(0, inner, server)
		knows[1-i] = []api.Spot{s}
	}
	var heard [2]int
	for round := 1; round <= rounds; round++ {
		for i, m := range boxes {
			for _, to := range slices.Clone(knows[i]) {
				from, e := m.out(round, inner, to)
				if e != api.OK {
					continue
				}
				if _, lets, _ := boxes[1-i].in(round, from, to.Port); !lets {
					continue
				}
				if heard[1-i] == 0 {
					heard[1-i] = round
				}
				if !slices.Contains(knows[1-i], from) {
					knows[1-i] = append(knows[1-i], from)
				}
			}
		}
	}
	return api.Punched{A: heard[0], B: heard[1]}
}

// P5.8: random translators are held against a second telling.
func TestCanOfMany(t *testing.T) {
	r := newChance(5)
	count := map[api.Punched]int{}
	for range 3_000 {
		a, b, rounds := r.nat(), r.nat(), r.Intn(7)
		b.Outer = ip("99.0.0.2")
		want := canOf(a, b, rounds)
		is(t, fmt.Sprint(a, b, rounds), all(route.Can(a, b, rounds)), all(want, api.OK))
		count[want]++
		// What follows: who map by nothing hear of each other by the second round.
		if a.Maps == api.SeesNothing && b.Maps == api.SeesNothing && a.Timeout > 1 && b.Timeout > 1 && rounds > 1 {
			is(t, fmt.Sprint(a, b, rounds), want.A*want.B > 0 && max(want.A, want.B) <= 2, true)
		}
		// More rounds change nothing of what came in earlier ones.
		more, _ := route.Can(a, b, rounds+10)
		for _, x := range [][2]int{{want.A, more.A}, {want.B, more.B}} {
			if x[0] > 0 && x[1] != x[0] || x[0] == 0 && x[1] > 0 && x[1] <= rounds {
				t.Error(a, b, rounds, want, more)
			}
		}
	}
	for _, x := range []api.Punched{{}, {A: 1}, {B: 1}, {A: 1, B: 1}, {A: 1, B: 2}, {A: 2, B: 1}, {A: 2, B: 2}} {
		if count[x] < 10 {
			t.Errorf("%v: %d times", x, count[x])
		}
	}
}
