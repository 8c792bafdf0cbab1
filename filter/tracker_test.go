package filter_test

import (
	"fmt"
	"math"
	"slices"
	"testing"

	"holloway/api"
	"holloway/filter"
)

var someTimes = api.Times{Young: 10, Tcp: 100, Done: 5, Other: 20}

// P4.7, Z6
func TestCheckTimes(t *testing.T) {
	day := api.Times{Young: api.DayLong, Tcp: api.DayLong, Done: api.DayLong, Other: api.DayLong}
	is(t, "ones", filter.CheckTimes(api.Times{Young: 1, Tcp: 1, Done: 1, Other: 1}), api.OK)
	is(t, "days", filter.CheckTimes(day), api.OK)
	for _, n := range []int{math.MinInt, -1, 0, api.DayLong + 1, math.MaxInt} {
		for i := range 4 {
			x := day
			*[]*int{&x.Young, &x.Tcp, &x.Done, &x.Other}[i] = n
			is(t, fmt.Sprint("CheckTimes ", x), filter.CheckTimes(x), api.ErrArg)
			y, e := filter.New(nil, x, 1)
			is(t, fmt.Sprint("New ", x), all(y == nil, e), all(true, api.ErrArg))
		}
	}
}

// P4.7, Z4
func TestNew(t *testing.T) {
	for _, c := range []struct {
		most int
		e    api.Errno
	}{{math.MinInt, api.ErrArg}, {-1, api.ErrArg}, {0, api.ErrArg}, {1, api.OK}, {api.MaxTracked, api.OK}, {api.MaxTracked + 1, api.ErrArg}, {math.MaxInt, api.ErrArg}} {
		x, e := filter.New(nil, someTimes, c.most)
		is(t, fmt.Sprint("New ", c.most), all(x != nil, e), all(c.e == api.OK, c.e))
	}
	x, e := filter.New(make([]api.Filter, 1), api.Times{}, 0)
	is(t, "rows first", all(x == nil, e), all(true, api.ErrForm))
}

// A track is a tracker in a test.
type track struct {
	*testing.T
	x *filter.Tracker
}

func newTrack(t *testing.T, l string, most int) track {
	x, e := filter.New(rows(l), someTimes, most)
	if e != api.OK {
		t.Fatal(e)
	}
	return track{t, x}
}

// send makes a packet of TCP, UDP or ICMP (with ports 0), with S, F, R or A for its flags.
func send(proto int, from, to string, fromPort, toPort int, flags string) api.Packet {
	p := api.Packet{From: ip(from), To: ip(to), Hops: 9, Proto: proto, FromPort: fromPort, ToPort: toPort}
	for _, f := range flags {
		*map[rune]*bool{'S': &p.Syn, 'F': &p.Fin, 'R': &p.Rst, 'A': &p.Has}[f] = true
	}
	return p
}

// there and reply are packets of TCP from port so many of 10.0.0.1 to port 80 of 10.0.0.2, and back.
func there(port int, flags string) api.Packet {
	return send(6, "10.0.0.1", "10.0.0.2", port, 80, flags)
}

func reply(port int, flags string) api.Packet {
	return send(6, "10.0.0.2", "10.0.0.1", 80, port, flags)
}

func (t track) in(p api.Packet, at int, want bool) {
	t.Helper()
	is(t.T, fmt.Sprint("In at ", at), all(t.x.In(p, at)), all(want, api.OK))
}

func (t track) out(p api.Packet, at int) {
	t.Helper()
	is(t.T, fmt.Sprint("Out at ", at), t.x.Out(p, at), api.OK)
}

// flows looks at the flows at a moment: for each one its FromPort, Last, and a and d if it is answered, and done.
func (t track) flows(at int, want string) {
	t.Helper()
	l, e := t.x.Flows(at)
	got := ""
	for _, f := range l {
		got += fmt.Sprint(" ", f.Flow.FromPort, "@", f.Last)
		if f.Answered {
			got += "a"
		}
		if f.Done {
			got += "d"
		}
	}
	is(t.T, fmt.Sprint("Flows at ", at), all(got, e), all(want, api.OK))
}

const open = "6 10.0.0.1/32 10.0.0.2/32 80"

// P4.7: what the rows let in, and what is tracked.
func TestIn(t *testing.T) {
	x := newTrack(t, open, 10)
	x.in(send(6, "10.0.0.1", "10.0.0.2", 5, 81, ""), 0, false)
	x.in(send(17, "10.0.0.1", "10.0.0.2", 5, 80, ""), 0, false)
	x.in(send(6, "10.0.0.3", "10.0.0.2", 5, 80, ""), 0, false)
	x.in(reply(5, ""), 0, false)
	x.flows(0, "")
	x.in(there(5, ""), 1, true)
	x.flows(1, " 5@1")
	x.in(there(6, ""), 1, true)
	x.flows(1, " 5@1 6@1")
	// Back of a flow is let in, too, and another port is not.
	x.in(reply(5, ""), 2, true)
	x.in(reply(7, ""), 2, false)
	x.flows(2, " 6@1 5@2a")
	x.in(there(5, ""), 3, true)
	x.flows(3, " 6@1 5@3a")
	l, _ := x.x.Flows(3)
	f, _ := filter.FlowOf(there(5, ""))
	is(t, "Flows", l[1], api.Tracked{Flow: f, Last: 3, Answered: true})
}

// P4.7: Out always tracks, also what the rows would not let in; what comes back is let in.
func TestOut(t *testing.T) {
	x := newTrack(t, "", 10)
	x.in(reply(5, ""), 0, false)
	x.out(there(5, "S"), 0)
	x.flows(0, " 5@0")
	x.out(there(5, "S"), 1)
	x.flows(1, " 5@1")
	x.in(there(6, "S"), 1, false)
	x.in(reply(5, "SA"), 2, true)
	x.flows(2, " 5@2a")
	x.out(reply(5, ""), 3)
	x.out(send(17, "10.0.0.1", "10.0.0.2", 5, 80, ""), 3)
	x.flows(3, " 5@3a 5@3")
	x.out(send(1, "fd00::1", "fd00::2", 0, 0, ""), 4)
	x.in(send(1, "fd00::2", "fd00::1", 0, 0, ""), 4, true)
	x.in(send(1, "fd00::2", "fd00::3", 0, 0, ""), 4, false)
	x.flows(4, " 5@3a 5@3 0@4a")
}

// P4.7: a flow is its own Back if both its ends are equal: no packet of it goes the other way.
func TestFlowsToThemselves(t *testing.T) {
	x := newTrack(t, "", 10)
	p := send(17, "10.0.0.1", "10.0.0.1", 5, 5, "")
	x.out(p, 0)
	x.in(p, 1, true)
	x.flows(1, " 5@1")
}

// P4.7: how long flows last.
func TestEnds(t *testing.T) {
	udp, udpBack := send(17, "10.0.0.1", "10.0.0.2", 5, 80, ""), send(17, "10.0.0.2", "10.0.0.1", 80, 5, "")
	icmp, icmpBack := send(1, "10.0.0.1", "10.0.0.2", 0, 0, ""), send(1, "10.0.0.2", "10.0.0.1", 0, 0, "")
	for _, c := range []struct {
		name string
		l    []api.Packet
		long int
	}{
		{"TCP that was not answered", []api.Packet{there(5, "S"), there(5, "A")}, someTimes.Young},
		{"UDP that was not answered", []api.Packet{udp}, someTimes.Young},
		{"ICMP that was not answered", []api.Packet{icmp, icmp}, someTimes.Young},
		{"TCP", []api.Packet{there(5, "S"), reply(5, "SA")}, someTimes.Tcp},
		{"TCP, and more", []api.Packet{there(5, "S"), reply(5, "SA"), there(5, "A")}, someTimes.Tcp},
		{"UDP", []api.Packet{udp, udpBack}, someTimes.Other},
		{"ICMP", []api.Packet{icmp, icmpBack, icmp}, someTimes.Other},
		{"TCP with Fin at once", []api.Packet{there(5, "F")}, someTimes.Done},
		{"TCP with Rst at once", []api.Packet{there(5, "R")}, someTimes.Done},
		{"TCP with Fin", []api.Packet{there(5, "S"), reply(5, "SA"), there(5, "F")}, someTimes.Done},
		{"TCP with Fin, and more", []api.Packet{there(5, "S"), reply(5, "F"), there(5, "A"), reply(5, "S")}, someTimes.Done},
		{"TCP with Rst", []api.Packet{there(5, "S"), reply(5, "R")}, someTimes.Done},
	} {
		for _, in := range []bool{false, true} {
			begun := func() track {
				x := newTrack(t, "any 10.0.0.1/32 10.0.0.2/32 0-65535", 10)
				for i, p := range c.l {
					if in {
						x.in(p, i, true)
					} else {
						x.out(p, i)
					}
				}
				return x
			}
			last := len(c.l) - 1
			back := c.l[0]
			back.From, back.To, back.FromPort, back.ToPort, back.Syn, back.Fin, back.Rst = back.To, back.From, back.ToPort, back.FromPort, false, false, false
			x := begun()
			l, e := x.x.Flows(last + c.long - 1)
			is(t, c.name, all(len(l), e), all(1, api.OK))
			l, e = x.x.Flows(last + c.long)
			is(t, c.name, all(len(l), e), all(0, api.OK))
			// Flows changes nothing, so that an earlier moment can follow.
			x.in(back, last+c.long-1, true)
			x = begun()
			x.in(back, last+c.long, false)
			x.flows(last+c.long, "")
		}
	}
}

// P4.7: a flow that has ended begins anew, behind those that were tracked first since.
func TestFlowsBeginAnew(t *testing.T) {
	x := newTrack(t, open, 10)
	x.in(there(1, "S"), 0, true)
	x.in(reply(1, "SA"), 0, true)
	x.in(there(1, "F"), 0, true)
	x.out(there(2, "S"), 0)
	x.flows(4, " 1@0ad 2@0")
	x.flows(5, " 2@0")
	x.in(there(2, "S"), 5, true)
	x.in(there(1, "S"), 5, true)
	x.flows(5, " 2@5 1@5")
	// The other way round it is another flow.
	x = newTrack(t, "", 10)
	x.out(there(1, "S"), 0)
	x.out(reply(1, "S"), 10)
	x.flows(10, " 80@10")
}

// P4.7: more than most.
func TestMost(t *testing.T) {
	x := newTrack(t, open, 3)
	for i := range 3 {
		x.in(there(i, ""), i, true)
	}
	x.flows(2, " 0@0 1@1 2@2")
	x.in(there(0, ""), 3, true)
	x.flows(3, " 1@1 2@2 0@3")
	x.out(there(9, ""), 3)
	x.flows(3, " 2@2 0@3 9@3")
	x.in(there(2, ""), 3, true)
	x.flows(3, " 0@3 2@3 9@3")
	// Of equal ones that goes which was tracked first.
	x.in(there(10, ""), 3, true)
	x.flows(3, " 2@3 9@3 10@3")
	// What is not let in takes no room, nor does what has ended.
	x.in(reply(77, ""), 4, false)
	x.flows(4, " 2@3 9@3 10@3")
	x.in(there(9, ""), 5, true)
	x.in(there(11, ""), 13, true)
	x.flows(13, " 9@5 11@13")
	x.in(there(12, ""), 13, true)
	x.flows(13, " 9@5 11@13 12@13")

	x = newTrack(t, open, 1)
	x.in(there(1, ""), 0, true)
	x.in(there(2, ""), 0, true)
	x.flows(0, " 2@0")
	x.in(reply(1, ""), 0, false)

	x = newTrack(t, open, api.MaxTracked)
	for i := range api.MaxTracked + 7 {
		x.in(there(i, ""), i/200, true)
	}
	l, e := x.x.Flows(5)
	is(t, "full", all(len(l), l[0].Flow.FromPort, e), all(api.MaxTracked, 7, api.OK))
}

// P4.7, Z3
func TestSet(t *testing.T) {
	x := newTrack(t, open, 10)
	x.in(there(1, ""), 0, true)
	is(t, "Set", x.x.Set(rows("6 10.0.0.1/32 10.0.0.3/32 80")), api.OK)
	x.flows(0, " 1@0")
	x.in(there(1, ""), 1, true)
	x.in(there(2, ""), 1, false)
	x.in(send(6, "10.0.0.1", "10.0.0.3", 3, 80, ""), 1, true)
	is(t, "wrong rows", x.x.Set(make([]api.Filter, 1)), api.ErrForm)
	x.in(send(6, "10.0.0.1", "10.0.0.3", 4, 80, ""), 1, true)
	x.in(there(2, ""), 1, false)
	is(t, "no rows", x.x.Set(nil), api.OK)
	x.in(send(6, "10.0.0.1", "10.0.0.3", 5, 80, ""), 1, false)
	x.flows(1, " 1@1 3@1 4@1")
}

// P4.7, Z3, Z4, Z11: the errors of the methods, which change nothing.
func TestTrackerErrors(t *testing.T) {
	x := newTrack(t, open, 10)
	both := func(name string, p api.Packet, at int, e api.Errno) {
		t.Helper()
		is(t, "In: "+name, all(x.x.In(p, at)), all(false, e))
		is(t, "Out: "+name, x.x.Out(p, at), e)
	}
	x.in(there(1, ""), 7, true)
	wrong := there(1, "")
	wrong.Hops = -1
	both("a packet", wrong, 8, api.ErrArg)
	wrong.To = ip("fd00::1")
	both("a packet, ahead of the moment", wrong, -1, api.ErrType)
	for _, at := range []int{math.MinInt, -1, api.End, math.MaxInt} {
		both("no moment", there(1, ""), at, api.ErrArg)
		is(t, "Flows", all(x.x.Flows(at)), all([]api.Tracked{}, api.ErrArg))
	}
	both("an earlier moment", there(1, "F"), 6, api.ErrOrder)
	both("the first moment", there(2, ""), 0, api.ErrOrder)
	is(t, "Flows", all(x.x.Flows(6)), all([]api.Tracked{}, api.ErrOrder))
	both("a packet at a later moment", api.Packet{}, 1_000, api.ErrKind)
	x.flows(7, " 1@7")
	// What is not let in counts as a call, too.
	x.in(reply(3, ""), 9, false)
	both("an earlier moment", there(1, ""), 8, api.ErrOrder)
	is(t, "Flows", all(x.x.Flows(8)), all([]api.Tracked{}, api.ErrOrder))
	// Flows at a later moment does not.
	x.flows(api.End-1, "")
	x.out(there(1, ""), 9)
	x.flows(9, " 1@9")
	x.out(there(1, ""), api.End-1)
	x.flows(api.End-1, " 1@"+fmt.Sprint(api.End-1))
	both("an earlier moment", there(1, ""), api.End-2, api.ErrOrder)
}

// Z2: a tracker keeps no arguments, and its results are new memory.
func TestTrackerKeepsNothing(t *testing.T) {
	l := rows(open)
	x, _ := filter.New(l, someTimes, 10)
	spoil := func() {
		l[0].Proto, l[0].Src[0], l[0].Dst[0], l[0].Ports[0] = 17, net("11.0.0.0/8"), net("11.0.0.0/8"), api.Ports{}
	}
	spoil()
	y := track{t, x}
	y.in(there(1, ""), 0, true)
	l = rows(open)
	is(t, "Set", x.Set(l), api.OK)
	spoil()
	y.in(there(2, ""), 0, true)
	l = rows(open)
	seen, _ := x.Flows(0)
	seen[0] = api.Tracked{}
	_ = append(seen[:1], api.Tracked{})
	y.flows(0, " 1@0 2@0")
	y.in(there(3, ""), 0, true)
	y.flows(0, " 1@0 2@0 3@0")
	is(t, "Flows", seen[1], api.Tracked{})
}

// A model is a tracker as the document tells it, which forgets nothing: those that have ended are asked for each time.
type model struct {
	rows  []api.Filter
	times api.Times
	most  int
	last  int
	flows []api.Tracked
}

func (m *model) live(x api.Tracked, at int) bool {
	long := m.times.Other
	if x.Flow.Proto == 6 {
		long = m.times.Tcp
	}
	if !x.Answered {
		long = m.times.Young
	}
	if x.Done {
		long = m.times.Done
	}
	return at < x.Last+long
}

func (m *model) pass(p api.Packet, at int, in bool) bool {
	m.last = at
	f, _ := filter.FlowOf(p)
	b, _ := filter.Back(f)
	for i := range m.flows {
		x := &m.flows[i]
		if m.live(*x, at) && (x.Flow == f || x.Flow == b) {
			x.Last = at
			x.Answered = x.Answered || x.Flow == b && f != b
			x.Done = x.Done || p.Fin || p.Rst
			return true
		}
	}
	if ok, _ := filter.Decides(m.rows, f); in && !ok {
		return false
	}
	m.flows = append(m.flows, api.Tracked{Flow: f, Last: at, Done: p.Fin || p.Rst})
	if l := m.list(at); len(l) > m.most {
		m.flows = slices.DeleteFunc(m.flows, func(x api.Tracked) bool { return x == l[0] })
	}
	return true
}

// list are the flows that have not ended.
func (m *model) list(at int) []api.Tracked {
	var out []api.Tracked
	for _, x := range m.flows {
		if m.live(x, at) {
			out = append(out, x)
		}
	}
	slices.SortStableFunc(out, func(x, y api.Tracked) int { return x.Last - y.Last })
	return out
}

// P4.7: random packets are held against a second telling.
func TestTrackerOfMany(t *testing.T) {
	r := newChance(10)
	count := map[string]int{}
	for range 300 {
		times := api.Times{Young: 1 + r.Intn(12), Tcp: 1 + r.Intn(30), Done: 1 + r.Intn(6), Other: 1 + r.Intn(20)}
		m := &model{rows: r.rows(r.Intn(3)), times: times, most: 1 + r.Intn(6)}
		x, e := filter.New(m.rows, times, m.most)
		is(t, "New", e, api.OK)
		at := 0
		for range 120 {
			at += max(0, r.Intn(5)-2)
			p := r.packet()
			if p.Proto != 1 {
				p.FromPort, p.ToPort = pick(r, []int{80, 443}), pick(r, []int{80, 443})
			}
			p.From, p.To = pick(r, someAddrs[:3]), pick(r, someAddrs[:3])
			switch r.Intn(12) {
			case 0:
				m.rows = r.rows(r.Intn(3))
				is(t, "Set", x.Set(m.rows), api.OK)
			case 1:
				later := at + r.Intn(10)
				is(t, "Flows", all(x.Flows(later)), all(m.list(later), api.OK))
			case 2, 3, 4:
				m.pass(p, at, false)
				is(t, "Out", x.Out(p, at), api.OK)
			default:
				f, _ := filter.FlowOf(p)
				lets, _ := filter.Decides(m.rows, f)
				tracked := len(m.list(at))
				want := m.pass(p, at, true)
				is(t, "In", all(x.In(p, at)), all(want, api.OK))
				count[fmt.Sprint("In ", lets, want)]++
				// What In lets in is let in by the rows, or belongs to a flow that is tracked.
				if want && !lets && tracked == 0 {
					t.Error("nothing lets it in")
				}
			}
			is(t, "Flows", all(x.Flows(at)), all(m.list(at), api.OK))
			if m.last == at && at > 0 {
				is(t, "In", all(x.In(p, at-1)), all(false, api.ErrOrder))
			}
		}
		if len(m.list(at)) == m.most {
			count["full"]++
		}
	}
	for what, least := range map[string]int{"In true true": 500, "In false true": 500, "In false false": 500, "full": 50} {
		if count[what] < least {
			t.Errorf("%s: %d times", what, count[what])
		}
	}
}
