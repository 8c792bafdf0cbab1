package route_test

import (
	"fmt"
	"math"
	"testing"

	"holloway/api"
	"holloway/route"
)

var (
	outer   = ip("99.0.0.1")
	someNat = api.Nat{Maps: api.SeesNothing, Lets: api.SeesNothing, Timeout: 10, First: 5_000, Ports: 4, Outer: outer}
)

func spot(a string, port int) api.Spot { return api.Spot{Addr: ip(a), Port: port} }

// P5.7, Z4, Z6
func TestNew(t *testing.T) {
	spoilers := []spoiler[api.Nat]{
		{"Maps 0", func(n *api.Nat) { n.Maps = 0 }, api.ErrKind},
		{"Maps 4", func(n *api.Nat) { n.Maps = 4 }, api.ErrKind},
		{"a low Maps", func(n *api.Nat) { n.Maps = math.MinInt }, api.ErrKind},
		{"Lets 0", func(n *api.Nat) { n.Lets = 0 }, api.ErrKind},
		{"Lets 4", func(n *api.Nat) { n.Lets = 4 }, api.ErrKind},
		{"a high Lets", func(n *api.Nat) { n.Lets = math.MaxInt }, api.ErrKind},
		{"Timeout 0", func(n *api.Nat) { n.Timeout = 0 }, api.ErrArg},
		{"a low Timeout", func(n *api.Nat) { n.Timeout = math.MinInt }, api.ErrArg},
		{"a high Timeout", func(n *api.Nat) { n.Timeout = api.MaxTimeout + 1 }, api.ErrArg},
		{"First 0", func(n *api.Nat) { n.First = 0 }, api.ErrArg},
		{"a low First", func(n *api.Nat) { n.First = math.MinInt }, api.ErrArg},
		{"a high First", func(n *api.Nat) { n.First, n.Ports = 65_536, 1 }, api.ErrArg},
		{"Ports 0", func(n *api.Nat) { n.Ports = 0 }, api.ErrArg},
		{"low Ports", func(n *api.Nat) { n.Ports = math.MinInt }, api.ErrArg},
		{"high Ports", func(n *api.Nat) { n.First, n.Ports = 5_000, 60_537 }, api.ErrArg},
		{"the greatest int", func(n *api.Nat) { n.Ports = math.MaxInt }, api.ErrArg},
		{"Outer", func(n *api.Nat) { n.Outer.Hi = 1 }, api.ErrForm},
	}
	for i, s := range spoilers {
		for _, later := range spoilers[i:] {
			n := someNat
			later.do(&n)
			s.do(&n)
			x, e := route.New(n)
			is(t, s.name+", and "+later.name, all(x == nil, e), all(true, s.e))
		}
	}
	for _, n := range []api.Nat{
		someNat,
		{Maps: 3, Lets: 3, Timeout: 1, First: 1, Ports: 65_535},
		{Maps: 2, Lets: 1, Timeout: api.MaxTimeout, First: 65_535, Ports: 1, Outer: ip("fd00::1")},
		{Maps: 1, Lets: 2, Timeout: 5, First: 65_530, Ports: 6},
	} {
		x, e := route.New(n)
		is(t, fmt.Sprint(n), all(x != nil, e), all(true, api.OK))
		is(t, "no entries", all(x.Entries(0)), all(0, api.OK))
	}
}

// A box is a translator in a test.
type box struct {
	*testing.T
	x *route.Translator
}

// boxed is a translator that is like someNat, but for what change does.
func boxed(t *testing.T, change func(n *api.Nat)) box {
	n := someNat
	change(&n)
	x, e := route.New(n)
	if e != api.OK {
		t.Fatal(e)
	}
	return box{t, x}
}

func (b box) out(at int, from, to api.Spot, port int) {
	b.Helper()
	is(b.T, fmt.Sprint("Out at ", at, " to ", to), all(b.x.Out(at, from, to)), all(api.Spot{Addr: outer, Port: port}, api.OK))
}

func (b box) full(at int, from, to api.Spot) {
	b.Helper()
	is(b.T, fmt.Sprint("Out at ", at, " to ", to), all(b.x.Out(at, from, to)), all(api.Spot{}, api.ErrFull))
}

// in looks at a packet in; want is the zero spot if it is not let in.
func (b box) in(at int, from api.Spot, port int, want api.Spot) {
	b.Helper()
	is(b.T, fmt.Sprint("In at ", at, " from ", from), all(b.x.In(at, from, port)), all(want, want != api.Spot{}, api.OK))
}

func (b box) entries(at, want int) {
	b.Helper()
	is(b.T, fmt.Sprint("Entries at ", at), all(b.x.Entries(at)), all(want, api.OK))
}

var (
	inA, inB       = spot("10.0.0.1", 7), spot("10.0.0.1", 8)
	inC            = spot("10.0.0.2", 7)
	one80, one81   = spot("1.0.0.1", 80), spot("1.0.0.1", 81)
	two80, two81   = spot("2.0.0.1", 80), spot("2.0.0.1", 81)
	six80, nowhere = spot("::100:1", 80), api.Spot{}
)

// P5.7: what the outer port depends on.
func TestMaps(t *testing.T) {
	for _, c := range []struct{ maps, one81, two80, inB int }{
		{api.SeesNothing, 5_000, 5_000, 5_001},
		{api.SeesAddr, 5_000, 5_001, 5_002},
		{api.SeesPort, 5_001, 5_002, 5_003},
	} {
		b := boxed(t, func(n *api.Nat) { n.Maps = c.maps })
		b.out(0, inA, one80, 5_000)
		b.out(0, inA, one80, 5_000)
		b.out(0, inA, one81, c.one81)
		b.out(0, inA, two80, c.two80)
		b.out(0, inB, one80, c.inB)
		b.out(0, inA, one80, 5_000)
		b.entries(0, c.inB-5_000+1)
	}
	// An address and a port that are the same with another length, or from another address, are others.
	b := boxed(t, func(n *api.Nat) { n.Maps = api.SeesAddr })
	b.out(0, inA, one80, 5_000)
	b.out(0, inA, six80, 5_001)
	b.out(0, inC, one80, 5_002)
	// The outer address can be of another length.
	b = boxed(t, func(n *api.Nat) { n.Outer = ip("fd00::9") })
	is(t, "Out", all(b.x.Out(0, inA, one80)), all(api.Spot{Addr: ip("fd00::9"), Port: 5_000}, api.OK))
}

// P5.7: who is let in.
func TestLets(t *testing.T) {
	for _, c := range []struct {
		lets                int
		one80, one81, six80 bool
	}{
		{api.SeesNothing, true, true, true},
		{api.SeesAddr, true, true, false},
		{api.SeesPort, true, false, false},
	} {
		b := boxed(t, func(n *api.Nat) { n.Lets = c.lets })
		want := func(lets bool) api.Spot {
			if lets {
				return inA
			}
			return nowhere
		}
		b.in(0, one80, 5_000, nowhere)
		b.out(1, inA, one80, 5_000)
		b.in(1, one80, 5_000, want(c.one80))
		b.in(1, one81, 5_000, want(c.one81))
		b.in(1, six80, 5_000, want(c.six80))
		b.in(1, one80, 5_001, nowhere)
		// All to whom packets of this entry went out count; those of another one do not.
		b.out(2, inB, two80, 5_001)
		b.in(2, two80, 5_000, want(c.six80))
		b.out(2, inA, two80, 5_000)
		b.in(2, two80, 5_000, inA)
		b.in(2, one80, 5_000, inA)
		b.in(2, two81, 5_000, want(c.one81))
		b.in(2, two80, 5_001, inB)
		b.in(2, one80, 5_001, map[bool]api.Spot{true: inB}[c.six80])
	}
}

// P5.7: entries last for Timeout behind the last packet out.
func TestTimeout(t *testing.T) {
	b := boxed(t, func(n *api.Nat) { n.Lets = api.SeesPort })
	b.out(0, inA, one80, 5_000)
	b.entries(9, 1)
	b.in(9, one80, 5_000, inA)
	// A packet in does not make it last longer.
	b.in(10, one80, 5_000, nowhere)
	b.entries(10, 0)
	b = boxed(t, func(n *api.Nat) { n.Lets = api.SeesPort })
	b.out(0, inA, one80, 5_000)
	b.out(9, inA, two80, 5_000)
	b.in(18, one80, 5_000, inA)
	b.entries(18, 1)
	b.entries(19, 0)
	b.in(19, two80, 5_000, nowhere)
	// A new entry has forgotten to whom packets went out, and has another port.
	b.out(19, inA, two80, 5_001)
	b.in(19, one80, 5_001, nowhere)
	b.in(19, two80, 5_001, inA)
	b.in(19, two80, 5_000, nowhere)
	b.out(29, inA, one80, 5_002)
	b.in(29, two80, 5_002, nowhere)
	// With a Timeout of 1 it lasts at the moment alone.
	b = boxed(t, func(n *api.Nat) { n.Timeout = 1 })
	b.out(5, inA, one80, 5_000)
	b.out(5, inA, two80, 5_000)
	b.in(5, six80, 5_000, inA)
	b.in(6, six80, 5_000, nowhere)
	b.out(7, inA, one80, 5_001)
	b = boxed(t, func(n *api.Nat) { n.Timeout = api.MaxTimeout })
	b.out(5, inA, one80, 5_000)
	b.entries(4+api.MaxTimeout, 1)
	b.entries(5+api.MaxTimeout, 0)
}

// P5.7: which outer port is given out next.
func TestPorts(t *testing.T) {
	b := boxed(t, func(n *api.Nat) { n.Ports = 3 })
	b.out(0, inA, one80, 5_000)
	b.out(5, inB, one80, 5_001)
	// From the one behind the last one on, though an earlier one is free.
	b.out(10, inC, one80, 5_002)
	b.entries(10, 2)
	// Behind the last of the Ports comes First again.
	b.out(10, inA, one80, 5_000)
	b.full(10, spot("10.0.0.3", 7), one80)
	// Those that last are passed over.
	b.out(14, inA, two80, 5_000)
	b.out(15, inB, one80, 5_001)
	b.out(20, inB, one80, 5_001)
	b.entries(20, 2)
	b.out(20, inC, one80, 5_002)
	b.out(24, spot("10.0.0.3", 7), one80, 5_000)
	b.out(25, inB, one80, 5_001)
	b.entries(30, 2)
	b.out(30, inA, one80, 5_002)
	b.out(34, inC, one80, 5_000)
	// The last port there is.
	b = boxed(t, func(n *api.Nat) { n.First, n.Ports = 65_534, 2 })
	b.out(0, inA, one80, 65_534)
	b.out(0, inB, one80, 65_535)
	b.full(0, inC, one80)
	b.entries(10, 0)
	b.out(10, inC, one80, 65_534)
	b = boxed(t, func(n *api.Nat) { n.First, n.Ports, n.Timeout = 1, 1, 1 })
	b.out(0, inA, one80, 1)
	b.full(0, inB, one80)
	b.out(1, inB, one80, 1)
}

// P5.7, Z3: a packet for which there is no port changes nothing; one that has an entry needs none.
func TestFull(t *testing.T) {
	b := boxed(t, func(n *api.Nat) { n.Ports, n.Lets = 2, api.SeesPort })
	b.out(0, inA, one80, 5_000)
	b.out(5, inB, one80, 5_001)
	b.full(9, inC, one80)
	b.in(9, one80, 5_000, inA)
	b.out(9, inA, two80, 5_000)
	b.out(9, inB, two80, 5_001)
	b.full(9, inC, one80)
	// The moment of a call with an error does not count.
	b.full(18, inC, one80)
	b.full(12, inC, one80)
	b.out(11, inA, two81, 5_000)
	b.in(11, two81, 5_001, nowhere)
	b.entries(19, 1)
	b.out(19, inC, one80, 5_001)
	b.in(19, two80, 5_001, nowhere)

	// What lasts until a call without an error is not forgotten by one with an error at a later moment.
	b = boxed(t, func(n *api.Nat) { n.Ports, n.Maps = 2, api.SeesPort })
	b.out(0, inA, one80, 5_000)
	b.out(1, inA, two80, 5_001)
	is(t, "no moment", all(b.x.Out(api.End, inC, one80)), all(nowhere, api.ErrArg))
	is(t, "a wrong spot", all(b.x.Out(50, inC, nowhere)), all(nowhere, api.ErrArg))
	is(t, "a wrong port", all(b.x.In(50, inC, 0)), all(nowhere, false, api.ErrArg))
	b.entries(9, 2)
}

// P5.7: there are at most MaxHeld entries, however many Ports.
func TestHeld(t *testing.T) {
	b := boxed(t, func(n *api.Nat) { n.First, n.Ports, n.Maps = 1, 65_535, api.SeesPort })
	for i := range api.MaxHeld {
		b.out(i/1_000, inA, spot("1.0.0.1", 1+i), 1+i)
	}
	b.full(1, inA, spot("1.0.0.1", 50_000))
	b.full(9, inA, spot("1.0.0.1", 50_000))
	b.entries(9, api.MaxHeld)
	b.out(9, inA, spot("1.0.0.1", 1), 1)
	b.out(10, inA, spot("1.0.0.1", 50_000), api.MaxHeld+1)
	b.entries(10, api.MaxHeld/2+2)
	b.out(10, inA, spot("1.0.0.1", 1), 1)
	for i := range 3 * api.MaxHeld {
		at := 20 + i
		b.out(at, inA, spot("1.0.0.1", 1+i%50_000), api.MaxHeld+2+i)
	}
}

// P5.7, Z3, Z4, Z11: the errors of the methods, which change nothing.
func TestTranslatorErrors(t *testing.T) {
	b := boxed(t, func(*api.Nat) {})
	b.out(7, inA, one80, 5_000)
	wrongAddr := api.Spot{Addr: api.Addr{Hi: 1}, Port: 5}
	calls := func(name string, at int, from, to api.Spot, port int, outs, ins, entries api.Errno) {
		t.Helper()
		if outs != api.OK {
			is(t, "Out: "+name, all(b.x.Out(at, from, to)), all(nowhere, outs))
		}
		if ins != api.OK {
			is(t, "In: "+name, all(b.x.In(at, from, port)), all(nowhere, false, ins))
		}
		if entries != api.OK {
			is(t, "Entries: "+name, all(b.x.Entries(at)), all(0, entries))
		}
		b.entries(7, 1)
	}
	for _, at := range []int{math.MinInt, -1, api.End, math.MaxInt} {
		calls("no moment", at, wrongAddr, wrongAddr, -1, api.ErrArg, api.ErrArg, api.ErrArg)
	}
	calls("an earlier moment", 6, wrongAddr, wrongAddr, -1, api.ErrOrder, api.ErrOrder, api.ErrOrder)
	calls("the first moment", 0, inA, one80, 5_000, api.ErrOrder, api.ErrOrder, api.ErrOrder)
	calls("from", 8, wrongAddr, nowhere, -1, api.ErrForm, api.ErrForm, api.OK)
	calls("to", 8, inA, wrongAddr, -1, api.ErrForm, api.ErrArg, api.OK)
	for _, port := range []int{math.MinInt, -1, 0, 65_536, math.MaxInt} {
		wrongPort := api.Spot{Addr: inA.Addr, Port: port}
		calls("the port of from", 8, wrongPort, wrongAddr, 5_000, api.ErrArg, api.ErrArg, api.OK)
		calls("the port of to", 8, inA, wrongPort, port, api.ErrArg, api.ErrArg, api.OK)
	}
	calls("the address first", 8, api.Spot{Addr: wrongAddr.Addr}, one80, 5_000, api.ErrForm, api.ErrForm, api.OK)
	// Each kind of call counts, also one of a packet that is not let in.
	b.in(8, one80, 65_535, nowhere)
	is(t, "In counts", all(b.x.Entries(7)), all(0, api.ErrOrder))
	b.entries(9, 1)
	is(t, "Entries counts", all(b.x.In(8, one80, 5_000)), all(nowhere, false, api.ErrOrder))
	b.out(10, spot("10.0.0.1", 65_535), spot("1.0.0.1", 1), 5_001)
	is(t, "Out counts", all(b.x.Out(9, inA, one80)), all(nowhere, api.ErrOrder))
	b.in(10, one80, 5_001, spot("10.0.0.1", 65_535))
	b.in(10, spot("1.0.0.1", 65_535), 1, nowhere)
	b.entries(api.End-1, 0)
	is(t, "the end", all(b.x.Entries(api.End-2)), all(0, api.ErrOrder))
}

// A packet is one that went out, with the outer port that it got.
type packet struct {
	at       int
	from, to api.Spot
	port     int
	opens    bool // it made an entry
}

// A teller is a translator as the chapter tells it: it keeps all packets that went out, and asks them each time.
type teller struct {
	n    api.Nat
	sent []packet
}

func same(sees int, x, y api.Spot) bool {
	return sees == api.SeesNothing || x.Addr == y.Addr && (sees == api.SeesAddr || x.Port == y.Port)
}

// entry are the packets of the entry that has a port at a moment.
func (m *teller) entry(port, at int) []packet {
	var out []packet
	for _, p := range m.sent {
		if p.port != port {
			continue
		}
		if p.opens {
			out = nil
		}
		out = append(out, p)
	}
	if len(out) == 0 || at >= out[len(out)-1].at+m.n.Timeout {
		return nil
	}
	return out
}

func (m *teller) entries(at int) int {
	n := 0
	for port := m.n.First; port < m.n.First+m.n.Ports; port++ {
		if m.entry(port, at) != nil {
			n++
		}
	}
	return n
}

func (m *teller) out(at int, from, to api.Spot) (api.Spot, api.Errno) {
	next := m.n.First
	for _, p := range m.sent {
		if p.opens {
			next = p.port + 1
		}
	}
	found, free := 0, 0
	for i := range m.n.Ports {
		port := m.n.First + (next-m.n.First+i)%m.n.Ports
		l := m.entry(port, at)
		if l != nil && l[0].from == from && same(m.n.Maps, l[0].to, to) {
			found = port
		}
		if l == nil && free == 0 {
			free = port
		}
	}
	switch {
	case found > 0:
		m.sent = append(m.sent, packet{at, from, to, found, false})
		return api.Spot{Addr: m.n.Outer, Port: found}, api.OK
	case free == 0:
		return api.Spot{}, api.ErrFull
	}
	m.sent = append(m.sent, packet{at, from, to, free, true})
	return api.Spot{Addr: m.n.Outer, Port: free}, api.OK
}

func (m *teller) in(at int, from api.Spot, port int) (api.Spot, bool, api.Errno) {
	for _, p := range m.entry(port, at) {
		if same(m.n.Lets, p.to, from) {
			return p.from, true, api.OK
		}
	}
	return api.Spot{}, false, api.OK
}

// P5.7: random packets are held against a second telling.
func TestTranslatorOfMany(t *testing.T) {
	r := newChance(4)
	count := map[string]int{}
	inner := []api.Spot{inA, inA, inB, inC}
	other := []api.Spot{one80, one81, two80, two81, six80}
	for range 400 {
		m := &teller{n: r.nat()}
		x, e := route.New(m.n)
		is(t, "New", e, api.OK)
		now := 0
		for range 80 {
			at := now + max(0, r.Intn(5)-2)
			switch r.Intn(8) {
			case 0:
				is(t, "Entries", all(x.Entries(at)), all(m.entries(at), api.OK))
			case 1, 2, 3:
				from, port := pick(r, other), m.n.First+r.Intn(m.n.Ports+2)-1
				if port < 1 || port > 65_535 {
					is(t, "In", all(x.In(at, from, port)), all(nowhere, false, api.ErrArg))
					continue
				}
				s, is1, e := m.in(at, from, port)
				is(t, fmt.Sprint("In ", m.n, m.sent), all(x.In(at, from, port)), all(s, is1, e))
				count[fmt.Sprint("In ", is1)]++
			default:
				from, to := pick(r, inner), pick(r, other)
				sent := len(m.sent)
				s, e := m.out(at, from, to)
				is(t, fmt.Sprint("Out ", m.n, m.sent), all(x.Out(at, from, to)), all(s, e))
				if e != api.OK {
					count["full"]++
					continue
				}
				count[fmt.Sprint("Out ", m.sent[sent].opens)]++
			}
			now = at
			if now > 0 {
				is(t, "Entries", all(x.Entries(now-1)), all(0, api.ErrOrder))
			}
		}
	}
	for what, least := range map[string]int{"In true": 500, "In false": 500, "Out true": 500, "Out false": 500, "full": 500} {
		if count[what] < least {
			t.Errorf("%s: %d times", what, count[what])
		}
	}
}
