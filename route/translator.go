package route

import (
	"cmp"

	"holloway/addr"
	"holloway/api"
	"holloway/checks"
)

// Translator translates addresses.
type Translator struct {
	nat    api.Nat
	now    int             // the moment of the last call
	next   int             // the outer port from which on a free one is looked for
	byEnds map[ends]*entry // those that last at now
	byPort map[int]*entry  // the same ones, by their outer ports
}

// ends are an inner spot, and as much of the other one as a translator looks at: entries depend on them.
type ends struct{ inner, other api.Spot }

// An entry gives an outer port to an inner spot.
type entry struct {
	ends
	port int
	last int               // the moment of its last packet out
	met  map[api.Spot]bool // to whom packets went out, as far as it matters for who is let in
}

// seen is as much of a spot as is looked at.
func seen(sees int, s api.Spot) api.Spot {
	switch sees {
	case api.SeesAddr:
		return api.Spot{Addr: s.Addr}
	case api.SeesPort:
		return s
	}
	return api.Spot{}
}

// checkSees is what is wrong with what a translator looks at.
func checkSees(sees int) api.Errno {
	return checks.Need(api.SeesNothing <= sees && sees <= api.SeesPort, api.ErrKind)
}

// checkNat is what is wrong with a translator.
func checkNat(n api.Nat) api.Errno {
	if e := cmp.Or(checkSees(n.Maps), checkSees(n.Lets), checks.Number(n.Timeout, 1, api.MaxTimeout), checkPort(n.First)); e != api.OK {
		return e
	}
	return cmp.Or(checks.Number(n.Ports, 1, api.MaxPort+1-n.First), addr.CheckAddr(n.Outer))
}

func checkPort(port int) api.Errno { return checks.Number(port, 1, api.MaxPort) }

func checkSpot(s api.Spot) api.Errno { return cmp.Or(addr.CheckAddr(s.Addr), checkPort(s.Port)) }

// New is a translator without entries.
func New(n api.Nat) (*Translator, api.Errno) {
	if e := checkNat(n); e != api.OK {
		return nil, e
	}
	return &Translator{nat: n, next: n.First, byEnds: map[ends]*entry{}, byPort: map[int]*entry{}}, api.OK
}

// lasts says whether an entry lasts at a moment.
func (t *Translator) lasts(x *entry, at int) bool { return at-x.last < t.nat.Timeout }

// lasting is how many entries last at a moment.
func (t *Translator) lasting(at int) int {
	n := 0
	for _, x := range t.byEnds {
		if t.lasts(x, at) {
			n++
		}
	}
	return n
}

// advance makes it a moment: entries that do not last any more are forgotten.
func (t *Translator) advance(at int) {
	if at == t.now {
		return
	}
	t.now = at
	for port, x := range t.byPort {
		if !t.lasts(x, at) {
			delete(t.byPort, port)
			delete(t.byEnds, x.ends)
		}
	}
}

// behind is the outer port behind another one.
func (t *Translator) behind(port int) int {
	if port+1 < t.nat.First+t.nat.Ports {
		return port + 1
	}
	return t.nat.First
}

// open makes an entry with the next free outer port, of which there is one.
func (t *Translator) open(of ends) *entry {
	port := t.next
	for t.byPort[port] != nil {
		port = t.behind(port)
	}
	x := &entry{ends: of, port: port, met: map[api.Spot]bool{}}
	t.byEnds[of], t.byPort[port] = x, x
	t.next = t.behind(port)
	return x
}

// Out is a packet that goes out.
func (t *Translator) Out(at int, from, to api.Spot) (api.Spot, api.Errno) {
	if e := cmp.Or(checks.Onward(at, t.now), checkSpot(from), checkSpot(to)); e != api.OK {
		return api.Spot{}, e
	}
	of := ends{inner: from, other: seen(t.nat.Maps, to)}
	x := t.byEnds[of]
	isNew := x == nil || !t.lasts(x, at)
	// What lasts is counted ahead of all changes: a packet for which there is no room makes none.
	if isNew && t.lasting(at) >= min(t.nat.Ports, api.MaxHeld) {
		return api.Spot{}, api.ErrFull
	}
	t.advance(at)
	if isNew {
		x = t.open(of)
	}
	x.last = at
	x.met[seen(t.nat.Lets, to)] = true
	return api.Spot{Addr: t.nat.Outer, Port: x.port}, api.OK
}

// In is a packet that comes to an outer port.
func (t *Translator) In(at int, from api.Spot, port int) (api.Spot, bool, api.Errno) {
	if e := cmp.Or(checks.Onward(at, t.now), checkSpot(from), checkPort(port)); e != api.OK {
		return api.Spot{}, false, e
	}
	t.advance(at)
	// An entry was made by a packet out, so that one that lets in from everywhere has met what is seen of everybody.
	x := t.byPort[port]
	if x == nil || !x.met[seen(t.nat.Lets, from)] {
		return api.Spot{}, false, api.OK
	}
	return x.inner, true, api.OK
}

// Entries is how many entries last.
func (t *Translator) Entries(at int) (int, api.Errno) {
	if e := checks.Onward(at, t.now); e != api.OK {
		return 0, e
	}
	t.advance(at)
	return len(t.byEnds), api.OK
}
