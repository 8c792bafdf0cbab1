package filter_test

import (
	"fmt"
	"math"
	"testing"

	"holloway/addr"
	"holloway/api"
	"holloway/filter"
)

// P4.1, Z4, Z6
func TestCheckPorts(t *testing.T) {
	p := func(from, to int) api.Ports { return api.Ports{From: from, To: to} }
	for _, c := range []struct {
		l []api.Ports
		e api.Errno
	}{
		{nil, api.OK},
		{[]api.Ports{{}}, api.OK},
		{[]api.Ports{p(0, 65_535)}, api.OK},
		{[]api.Ports{p(0, 0), p(2, 2), p(4, 65_535)}, api.OK},
		{[]api.Ports{p(5, 9), p(11, 20)}, api.OK},
		{apartPorts(api.MaxSet), api.OK},
		{apartPorts(api.MaxSet + 1), api.ErrLarge},
		{make([]api.Ports, api.MaxSet+1), api.ErrLarge},
		{[]api.Ports{p(-1, 5)}, api.ErrArg},
		{[]api.Ports{p(6, 5)}, api.ErrArg},
		{[]api.Ports{p(0, 65_536)}, api.ErrArg},
		{[]api.Ports{p(65_536, 65_536)}, api.ErrArg},
		{[]api.Ports{p(math.MinInt, math.MaxInt)}, api.ErrArg},
		{[]api.Ports{p(math.MaxInt, math.MinInt)}, api.ErrArg},
		{[]api.Ports{p(7, 7), p(7, 7)}, api.ErrOrder},
		{[]api.Ports{p(7, 7), p(7, 9)}, api.ErrOrder},
		{[]api.Ports{p(7, 7), p(5, 5)}, api.ErrOrder},
		{[]api.Ports{p(7, 7), p(6, 20)}, api.ErrOrder},
		{[]api.Ports{p(7, 7), p(8, 9)}, api.ErrRule},
		{[]api.Ports{p(5, 9), p(6, 7)}, api.ErrRule},
		{[]api.Ports{p(5, 9), p(9, 11)}, api.ErrRule},
		{[]api.Ports{p(5, 9), p(10, 11)}, api.ErrRule},
		// For each in order all errors.
		{[]api.Ports{p(7, 7), p(5, 4)}, api.ErrArg},
		{[]api.Ports{p(7, 7), p(8, 8), p(3, 2)}, api.ErrRule},
		{[]api.Ports{p(7, 7), p(7, 8), p(3, 2)}, api.ErrOrder},
		{[]api.Ports{p(7, 7), p(8, 8), p(1, 1)}, api.ErrRule},
	} {
		is(t, fmt.Sprintf("CheckPorts %.60v", c.l), filter.CheckPorts(c.l), c.e)
	}
}

// P4.1
func TestLeastPorts(t *testing.T) {
	p := func(from, to int) api.Ports { return api.Ports{From: from, To: to} }
	for _, c := range []struct {
		l, want []api.Ports
		e       api.Errno
	}{
		{nil, nil, api.OK},
		{[]api.Ports{p(5, 9), p(1, 4), p(20, 20)}, []api.Ports{p(1, 9), p(20, 20)}, api.OK},
		{[]api.Ports{p(1, 4), p(6, 9)}, []api.Ports{p(1, 4), p(6, 9)}, api.OK},
		{[]api.Ports{p(1, 40), p(6, 9), p(3, 50)}, []api.Ports{p(1, 50)}, api.OK},
		{[]api.Ports{p(1, 65_535), p(0, 0), p(0, 0)}, allPorts, api.OK},
		{[]api.Ports{p(65_535, 65_535), p(65_534, 65_534)}, ports(65_534, 65_535), api.OK},
		{apartPorts(api.MaxSet), apartPorts(api.MaxSet), api.OK},
		{make([]api.Ports, api.MaxSet), make([]api.Ports, 1), api.OK},
		{make([]api.Ports, api.MaxSet+1), nil, api.ErrLarge},
		{append(make([]api.Ports, api.MaxSet), p(1, 0)), nil, api.ErrLarge},
		{[]api.Ports{p(1, 2), p(1, 0)}, nil, api.ErrArg},
		{[]api.Ports{p(1, 2), p(-1, 0)}, nil, api.ErrArg},
		{[]api.Ports{p(1, 2), p(7, 65_536)}, nil, api.ErrArg},
		{[]api.Ports{p(math.MinInt, math.MaxInt)}, nil, api.ErrArg},
	} {
		is(t, fmt.Sprintf("LeastPorts %.60v", c.l), all(filter.LeastPorts(c.l)), all(c.want, c.e))
	}
}

// P4.1: lists are held against the ports one by one.
func TestLeastPortsOfMany(t *testing.T) {
	r := newChance(1)
	for range 2_000 {
		l := repeat(r.Intn(6), func(int) api.Ports {
			from := r.Intn(20)
			return api.Ports{From: from, To: from + r.Intn(4)}
		})
		least, e := filter.LeastPorts(l)
		is(t, "LeastPorts", all(e, filter.CheckPorts(least)), all(api.OK, api.OK))
		for port := range 30 {
			is(t, fmt.Sprint(l, port), hasPort(least, port), hasPort(l, port))
		}
	}
}

func hasPort(l []api.Ports, port int) bool {
	for _, p := range l {
		if p.From <= port && port <= p.To {
			return true
		}
	}
	return false
}

// fullRows has as much as rows can have.
func fullRows() []api.Filter {
	return repeat(api.MaxFilters, func(int) api.Filter {
		return api.Filter{Proto: 6, Src: apart(api.MaxSet), Dst: apart(api.MaxSet), Ports: apartPorts(api.MaxSet)}
	})
}

// base is a row that is right.
func base() api.Filter {
	return api.Filter{Proto: 6, Src: nets("10.0.0.0/8 fd00::/8"), Dst: nets("10.0.0.0/9 fd00::/9"), Ports: []api.Ports{{From: 1, To: 2}, {From: 4, To: 5}}}
}

// rowBreaks make a row wrong, in the order in which it is told.
var rowBreaks = []struct {
	name string
	do   func(f *api.Filter)
	e    api.Errno
}{
	{"a low protocol", func(f *api.Filter) { f.Proto = -1 }, api.ErrArg},
	{"a high protocol", func(f *api.Filter) { f.Proto = api.MaxProto + 1 }, api.ErrArg},
	{"many Src", func(f *api.Filter) { f.Src = apart(api.MaxSet + 1) }, api.ErrLarge},
	{"an address of Src", func(f *api.Filter) { f.Src = []api.Prefix{{Addr: api.Addr{Hi: 1}}} }, api.ErrForm},
	{"bits of Src", func(f *api.Filter) { f.Src = []api.Prefix{{Bits: 33}} }, api.ErrArg},
	{"Src falls", func(f *api.Filter) { f.Src = nets("fd00::/8 10.0.0.0/8") }, api.ErrOrder},
	{"halves of Src", func(f *api.Filter) { f.Src = nets("10.0.0.0/9 10.128.0.0/9") }, api.ErrRule},
	{"many Dst", func(f *api.Filter) { f.Dst = apart(api.MaxSet + 1) }, api.ErrLarge},
	{"bits of Dst", func(f *api.Filter) { f.Dst = []api.Prefix{{Bits: 33}} }, api.ErrArg},
	{"Dst falls", func(f *api.Filter) { f.Dst = nets("fd00::/8 10.0.0.0/8") }, api.ErrOrder},
	{"Dst overlaps", func(f *api.Filter) { f.Dst = nets("10.0.0.0/8 10.1.0.0/16") }, api.ErrRule},
	{"no Src", func(f *api.Filter) { f.Src = nil }, api.ErrForm},
	{"no Dst", func(f *api.Filter) { f.Dst = nil }, api.ErrForm},
	{"no Ports", func(f *api.Filter) { f.Ports = nil }, api.ErrForm},
	{"many Ports", func(f *api.Filter) { f.Ports = apartPorts(api.MaxSet + 1) }, api.ErrLarge},
	{"wrong Ports", func(f *api.Filter) { f.Ports = []api.Ports{{From: 2, To: 1}} }, api.ErrArg},
	{"Ports fall", func(f *api.Filter) { f.Ports = []api.Ports{{From: 2, To: 2}, {}} }, api.ErrOrder},
	{"Ports touch", func(f *api.Filter) { f.Ports = []api.Ports{{From: 2, To: 2}, {From: 3, To: 3}} }, api.ErrRule},
	{"ports of ICMP", func(f *api.Filter) { f.Proto = 1 }, api.ErrRule},
}

// P4.1, Z4: each error alone, and ahead of those of the rows and parts behind it; functions with rows return it first.
func TestWrongRows(t *testing.T) {
	expect := func(name string, l []api.Filter, want api.Errno) {
		is(t, "Check: "+name, filter.Check(l), want)
		if want == api.OK {
			return
		}
		is(t, "Decides: "+name, all(filter.Decides(l, api.Flow{})), all(false, want))
		is(t, "Squeeze: "+name, all(filter.Squeeze(l)), all([]api.Filter{}, want))
		is(t, "Text: "+name, all(filter.Text(l)), all("", want))
		x, e := filter.New(l, api.Times{}, 0)
		is(t, "New: "+name, all(x == nil, e), all(true, want))
		x, _ = filter.New(nil, api.Times{Young: 1, Tcp: 1, Done: 1, Other: 1}, 1)
		is(t, "Set: "+name, x.Set(l), want)
	}
	expect("none", nil, api.OK)
	expect("two", []api.Filter{base(), base()}, api.OK)
	expect("full", fullRows(), api.OK)
	expect("many", make([]api.Filter, api.MaxFilters+1), api.ErrLarge)
	worse := api.Filter{Proto: -1}
	for i, b := range rowBreaks {
		f := base()
		b.do(&f)
		expect(b.name, []api.Filter{base(), f}, b.e)
		expect(b.name+", ahead of a worse one", []api.Filter{base(), f, worse}, b.e)
		for _, c := range rowBreaks[i+1:] {
			f := base()
			c.do(&f)
			b.do(&f)
			is(t, b.name+", ahead of "+c.name, filter.Check([]api.Filter{f}), b.e)
		}
	}
}

// P4.1, Z6: all protocols, with all ports and with some.
func TestProtocolsOfRows(t *testing.T) {
	for _, proto := range []int{math.MinInt, -1, 0, 1, 2, 5, 6, 7, 16, 17, 18, 255, 256, math.MaxInt} {
		for _, l := range [][]api.Ports{allPorts, ports(0, 65_534), ports(1, 65_535), ports(7, 7), {{From: 0, To: 4}, {From: 6, To: 65_535}}} {
			f := base()
			f.Proto, f.Ports = proto, l
			want := api.OK
			if proto < 0 || proto > 255 {
				want = api.ErrArg
			} else if proto != 0 && proto != 6 && proto != 17 && l[0] != allPorts[0] {
				want = api.ErrRule
			}
			is(t, fmt.Sprint(proto, l), filter.Check([]api.Filter{f}), want)
		}
	}
}

// P4.1
func TestDecides(t *testing.T) {
	l := rows("6 10.0.0.0/30,fd00::/126 10.0.0.8/32,fd00::8/128 80,443-445; 17 10.0.0.1/32 10.0.0.8/32 0-65535; any 10.0.0.2/32 10.0.0.9/32 0; 47 0.0.0.0/0 10.0.0.10/32 0-65535")
	for _, c := range []struct {
		f    api.Flow
		want bool
	}{
		{flow(6, "10.0.0.0", "10.0.0.8", 80), true},
		{flow(6, "10.0.0.3", "10.0.0.8", 443), true},
		{flow(6, "10.0.0.3", "10.0.0.8", 444), true},
		{flow(6, "10.0.0.3", "10.0.0.8", 445), true},
		{flow(6, "fd00::3", "fd00::8", 80), true},
		{flow(6, "10.0.0.3", "10.0.0.8", 446), false},
		{flow(6, "10.0.0.3", "10.0.0.8", 79), false},
		{flow(6, "10.0.0.4", "10.0.0.8", 80), false},
		{flow(6, "10.0.0.3", "10.0.0.7", 80), false},
		{flow(6, "fd00::4", "fd00::8", 80), false},
		{flow(17, "10.0.0.0", "10.0.0.8", 80), false},
		{flow(17, "10.0.0.1", "10.0.0.8", 80), true},
		{flow(1, "10.0.0.1", "10.0.0.8", 0), false},
		{flow(1, "10.0.0.2", "10.0.0.9", 0), true},
		{flow(255, "10.0.0.2", "10.0.0.9", 0), true},
		{flow(17, "10.0.0.2", "10.0.0.9", 0), true},
		{flow(17, "10.0.0.2", "10.0.0.9", 1), false},
		{flow(47, "99.0.0.2", "10.0.0.10", 0), true},
		{flow(46, "99.0.0.2", "10.0.0.10", 0), false},
		{api.Flow{Proto: 6, From: ip("10.0.0.0"), To: ip("10.0.0.8"), FromPort: 9, ToPort: 80}, true},
		{api.Flow{Proto: 6, From: ip("10.0.0.0"), To: ip("10.0.0.8"), FromPort: 80, ToPort: 9}, false},
	} {
		is(t, fmt.Sprint("Decides ", c.f), all(filter.Decides(l, c.f)), all(c.want, api.OK))
	}
	is(t, "no rows", all(filter.Decides(nil, flow(6, "10.0.0.1", "10.0.0.2", 1))), all(false, api.OK))
	for _, c := range []struct {
		f api.Flow
		e api.Errno
	}{
		{flow(0, "10.0.0.2", "10.0.0.9", 0), api.ErrArg},
		{flow(256, "10.0.0.2", "10.0.0.9", 0), api.ErrArg},
		{api.Flow{Proto: 6, From: api.Addr{Hi: 1}}, api.ErrForm},
		{api.Flow{Proto: 6, To: api.Addr{Lo: 1 << 32}}, api.ErrForm},
		{flow(6, "10.0.0.2", "fd00::1", 0), api.ErrType},
		{flow(6, "10.0.0.2", "10.0.0.9", 65_536), api.ErrArg},
		{flow(1, "10.0.0.2", "10.0.0.9", 1), api.ErrArg},
	} {
		is(t, fmt.Sprint("Decides ", c.f), all(filter.Decides(l, c.f)), all(false, c.e))
	}
}

// lets says whether a row lets a flow in, as the document tells it.
func lets(f api.Filter, x api.Flow) bool {
	has := func(s []api.Prefix, a api.Addr) bool {
		ok, e := addr.Has(s, a)
		return ok && e == api.OK
	}
	return (f.Proto == 0 || f.Proto == x.Proto) && has(f.Src, x.From) && has(f.Dst, x.To) && hasPort(f.Ports, x.ToPort)
}

// P4.1: random rows are held against a second telling.
func TestDecidesOfMany(t *testing.T) {
	r := newChance(2)
	each := flows()
	count := map[bool]int{}
	for range 500 {
		l := r.rows(r.Intn(4))
		for range 40 {
			x, want := pick(r, each), false
			for _, f := range l {
				want = want || lets(f, x)
			}
			is(t, fmt.Sprint(shownRows(l), x), all(filter.Decides(l, x)), all(want, api.OK))
			count[want]++
		}
	}
	if count[true] < 500 || count[false] < 500 {
		t.Errorf("decided: %v", count)
	}
}
