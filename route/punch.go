package route

import (
	"cmp"
	"slices"

	"holloway/addr"
	"holloway/api"
	"holloway/checks"
)

// spot is one at an address of 32 bits.
func spot(address string, port int) api.Spot {
	a, _ := addr.Parse(address)
	return api.Spot{Addr: a, Port: port}
}

// server is what tells both nodes of a trial the outer spot of the other one.
func server() api.Spot { return spot("1.1.1.1", 3_478) }

// A side is a node behind its own translator, in a trial of what two of them can do.
type side struct {
	inner api.Spot
	nat   *Translator
	knows []api.Spot // outer spots of the other one
	heard int        // the round in which a packet of the other one came first
}

// newSide is a side that has sent a packet to the server, and the outer spot that this has seen.
func newSide(n api.Nat) (*side, api.Spot) {
	s := &side{inner: spot("10.0.0.1", 1_000)}
	s.nat, _ = New(n)
	outer, _ := s.nat.Out(0, s.inner, server())
	return s, outer
}

// send is the turn of a side in a round.
func (s *side) send(other *side, round int) {
	for _, to := range s.knows {
		if from, e := s.nat.Out(round, s.inner, to); e == api.OK {
			other.get(from, to.Port, round)
		}
	}
}

// get is a packet that comes to an outer port of a side.
func (s *side) get(from api.Spot, port, round int) {
	if _, is, _ := s.nat.In(round, from, port); !is {
		return
	}
	if s.heard == 0 {
		s.heard = round
	}
	if !slices.Contains(s.knows, from) {
		s.knows = append(s.knows, from)
	}
}

// checkTrial is what is wrong with two translators and rounds.
func checkTrial(a, b api.Nat, rounds int) api.Errno {
	apart := a.Outer != b.Outer && a.Outer != server().Addr && b.Outer != server().Addr
	return cmp.Or(checkNat(a), checkNat(b), checks.Need(apart, api.ErrConflict), checks.Number(rounds, 0, api.MaxRounds))
}

// Can tries what two nodes behind two translators can do.
func Can(a, b api.Nat, rounds int) (api.Punched, api.Errno) {
	if e := checkTrial(a, b, rounds); e != api.OK {
		return api.Punched{}, e
	}
	x, outerA := newSide(a)
	y, outerB := newSide(b)
	x.knows, y.knows = []api.Spot{outerB}, []api.Spot{outerA}
	// Behind the round in which both have heard, what they know grows and grows, and nothing of it is asked for.
	for round := 1; round <= rounds && (x.heard == 0 || y.heard == 0); round++ {
		x.send(y, round)
		y.send(x, round)
	}
	return api.Punched{A: x.heard, B: y.heard}, api.OK
}
