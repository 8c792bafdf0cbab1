package checks

import (
	"math"
	"strings"
	"testing"

	"holloway/api"
)

func is(t *testing.T, name string, got, want api.Errno) {
	t.Helper()
	if got != want {
		t.Errorf("%s: got %v, want %v", name, got, want)
	}
}

// Z11
func TestSmallOnes(t *testing.T) {
	is(t, "Need", Need(true, api.ErrRule), api.OK)
	is(t, "Need", Need(false, api.ErrRule), api.ErrRule)
	is(t, "Key", Key("a-0"), api.OK)
	is(t, "no key", Key("A"), api.ErrName)
	for _, n := range []int{-3, 0, 7} {
		is(t, "Number", Number(n, -3, 7), api.OK)
	}
	for _, n := range []int{math.MinInt, -4, 8, math.MaxInt} {
		is(t, "no such number", Number(n, -3, 7), api.ErrArg)
	}
	is(t, "Moment", Moment(api.End-1), api.OK)
	is(t, "no moment", Moment(api.End), api.ErrArg)
	is(t, "Onward", Onward(api.End-1, api.End-1), api.OK)
	is(t, "the first moment", Onward(0, 0), api.OK)
	is(t, "a moment that was", Onward(6, 7), api.ErrOrder)
	is(t, "no moment that was", Onward(-1, 7), api.ErrArg)
	is(t, "no moment that comes", Onward(api.End, 7), api.ErrArg)
	is(t, "Window", Window(api.Window{From: 0, To: api.End}), api.OK)
	is(t, "no window", Window(api.Window{From: 1, To: 0}), api.ErrArg)
}

// P8.1
func TestSuffix(t *testing.T) {
	long := strings.Repeat("a", api.MaxName)
	full := long + "." + long + "." + strings.Repeat("b", api.MaxSuffix-2*api.MaxName-2)
	for _, s := range []string{"a", "net", "corp.net", "a.b.c.d", "a-_0.b-_9-", long, long + ".a", full} {
		is(t, s, Suffix(s), api.OK)
	}
	for _, s := range []string{"", ".", "a.", ".a", "a..b", "A", "a.B", "a b", "a.0", "a.-b", "a._b", "0.a", "a\n", "a.\n", "é", "a,b", long + "a", "a." + long + "a", full + "b", full + ".", strings.Repeat("a", 200_000), strings.Repeat("a.", 100_000)} {
		is(t, s, Suffix(s), api.ErrForm)
	}
}

// P5.1, P5.4, P5.5, P5.6, Z4
func TestRising(t *testing.T) {
	check := func(n int) api.Errno { return Need(n >= 0, api.ErrForm) }
	compare := func(x, y int) int { return (x - y) / 10 }
	for _, c := range []struct {
		l []int
		e api.Errno
	}{
		{nil, api.OK},
		{[]int{0}, api.OK},
		{[]int{0, 10, 20}, api.OK},
		{[]int{-1}, api.ErrForm},
		{[]int{0, 10, -1}, api.ErrForm},
		{[]int{0, 9}, api.ErrOrder},
		{[]int{10, 0}, api.ErrOrder},
		{[]int{0, 10, 10}, api.ErrOrder},
		{[]int{0, 0, -1}, api.ErrOrder},
		{[]int{20, -1, 0}, api.ErrForm},
		{[]int{-1, -1, -1, -1}, api.ErrLarge},
		{[]int{0, 10, 20, 30}, api.ErrLarge},
	} {
		is(t, "Rising", Rising(c.l, 3, check, compare), c.e)
	}
}

// P2.1, P3.1, P6.6, Z4: what is asked behind the order of a part comes ahead of all that is wrong with the next one.
func TestRisingAndMore(t *testing.T) {
	check := func(n int) api.Errno { return Need(n >= 0, api.ErrForm) }
	compare := func(x, y int) int { return x/10 - y/10 }
	even := func(n int) api.Errno { return Need(n%2 == 0, api.ErrType) }
	small := func(n int) api.Errno { return Need(n%10 < 5, api.ErrRule) }
	for _, c := range []struct {
		l []int
		e api.Errno
	}{
		{nil, api.OK},
		{[]int{0, 12, 24}, api.OK},
		{[]int{1}, api.ErrType},
		{[]int{6}, api.ErrRule},
		{[]int{7}, api.ErrType},
		{[]int{7, 0}, api.ErrType},
		{[]int{6, -1}, api.ErrRule},
		{[]int{10, 7}, api.ErrOrder},
		{[]int{10, -1}, api.ErrForm},
		{[]int{0, 10, 26}, api.ErrRule},
		{[]int{1, 1, 1, 1}, api.ErrLarge},
	} {
		is(t, "Rising", Rising(c.l, 3, check, compare, even, small), c.e)
	}
}

// P3.1, P4.1, P6.6, P6.9, Z4
func TestEach(t *testing.T) {
	same := func(e api.Errno) api.Errno { return e }
	for _, c := range []struct {
		l []api.Errno
		e api.Errno
	}{
		{nil, api.OK},
		{[]api.Errno{api.OK, api.OK, api.OK}, api.OK},
		{[]api.Errno{api.ErrForm}, api.ErrForm},
		{[]api.Errno{api.OK, api.OK, api.ErrForm}, api.ErrForm},
		{[]api.Errno{api.OK, api.ErrName, api.ErrForm}, api.ErrName},
		{[]api.Errno{api.OK, api.OK, api.OK, api.OK}, api.ErrLarge},
		{[]api.Errno{api.ErrForm, api.OK, api.OK, api.OK}, api.ErrLarge},
	} {
		is(t, "Each", Each(c.l, 3, same), c.e)
	}
}

// P2.1, P3.1
func TestKeys(t *testing.T) {
	for _, l := range [][]string{nil, {"a"}, {"a", "a-", "a0", "b"}} {
		is(t, "Keys", Keys(l), api.OK)
	}
	for _, l := range [][]string{{""}, {"A"}, {"a", "B"}, {"b", "A"}, {"A", "b", "a"}} {
		is(t, "Keys", Keys(l), api.ErrName)
	}
	for _, l := range [][]string{{"a", "a"}, {"b", "a"}, {"b", "a", "A"}} {
		is(t, "Keys", Keys(l), api.ErrOrder)
	}
}

// P2.6, P3.1
func TestAddrs(t *testing.T) {
	taken := map[api.Addr]bool{}
	is(t, "Addrs", Addrs([]api.Addr{{Lo: 1}, {Six: true, Lo: 1}, {Lo: 2}, {}}, taken, api.ErrTwice), api.OK)
	is(t, "another place", Addrs([]api.Addr{{Lo: 3}, {Lo: 2}}, taken, api.ErrConflict), api.ErrConflict)
	is(t, "the same place", Addrs([]api.Addr{{Lo: 4}, {Lo: 4}}, taken, api.ErrTwice), api.ErrTwice)
	is(t, "too many", Addrs(make([]api.Addr, api.MaxAddrs+1), taken, api.ErrTwice), api.ErrLarge)
	is(t, "no address", Addrs([]api.Addr{{Lo: 1 << 32}, {Lo: 1}}, taken, api.ErrTwice), api.ErrForm)
	is(t, "again, ahead of no address", Addrs([]api.Addr{{Lo: 1}, {Hi: 1}}, taken, api.ErrTwice), api.ErrTwice)
}

// P2.6, P3.1
func TestRoutes(t *testing.T) {
	net := func(lo uint64, bits int) api.Prefix { return api.Prefix{Addr: api.Addr{Lo: lo}, Bits: bits} }
	is(t, "Routes", Routes([]api.Prefix{net(0, 0), net(0, 8), net(0, 7), {Addr: api.Addr{Six: true}}}), api.OK)
	is(t, "again", Routes([]api.Prefix{net(0, 8), net(0, 9), net(0, 8), net(1, 8)}), api.ErrTwice)
	is(t, "no prefix", Routes([]api.Prefix{net(1, 8), net(0, 8), net(0, 8)}), api.ErrForm)
	is(t, "bits", Routes([]api.Prefix{net(0, 33)}), api.ErrArg)
	full := make([]api.Prefix, api.MaxRoutes)
	for i := range full {
		full[i] = net(0, i)
	}
	is(t, "full", Routes(full), api.OK)
	is(t, "too many", Routes(make([]api.Prefix, api.MaxRoutes+1)), api.ErrLarge)
}

// P2.6, P10.1, Z4
func TestPlaces(t *testing.T) {
	place := func(node string, addrs ...uint64) api.Place {
		p := api.Place{Node: node}
		for _, lo := range addrs {
			p.Addrs = append(p.Addrs, api.Addr{Lo: lo})
		}
		return p
	}
	routed := func(p api.Place, bits ...int) api.Place {
		for _, n := range bits {
			p.Routes = append(p.Routes, api.Prefix{Bits: n})
		}
		return p
	}
	full := make([]api.Place, api.MaxNodes)
	for i := range full {
		full[i].Node = "k" + string([]byte{byte('a' + i/26%26), byte('a' + i%26)})
	}
	is(t, "full", Places(full), api.OK)
	for _, c := range []struct {
		name string
		l    []api.Place
		e    api.Errno
	}{
		{"none", nil, api.OK},
		{"places", []api.Place{routed(place("a", 1, 2), 0, 8), routed(place("b", 3), 8, 0), place("c")}, api.OK},
		{"too many", make([]api.Place, api.MaxNodes+1), api.ErrLarge},
		{"no key", []api.Place{place("a"), place("A", 1<<32)}, api.ErrName},
		{"twice", []api.Place{place("a"), place("a", 1<<32)}, api.ErrOrder},
		{"out of order", []api.Place{place("b"), place("a"), place("A")}, api.ErrOrder},
		{"no address", []api.Place{routed(place("a", 1<<32), 33), place("A")}, api.ErrForm},
		{"many addresses", []api.Place{place("a", 1, 1, 1, 1, 1)}, api.ErrLarge},
		{"an address again", []api.Place{routed(place("a", 1, 1), 33)}, api.ErrConflict},
		{"that of another one", []api.Place{place("a", 1), place("b", 2, 1)}, api.ErrConflict},
		{"no route", []api.Place{routed(place("a"), 33), place("A")}, api.ErrArg},
		{"a route again", []api.Place{routed(place("a"), 8, 0, 8)}, api.ErrTwice},
	} {
		is(t, c.name, Places(c.l), c.e)
	}
}

// P3.2, Z4, Z6
func TestFlow(t *testing.T) {
	right := api.Flow{Proto: 6, From: api.Addr{Lo: 1}, To: api.Addr{Lo: 2}, FromPort: 3, ToPort: 4}
	breaks := []struct {
		name string
		do   func(f *api.Flow)
		e    api.Errno
	}{
		{"no protocol", func(f *api.Flow) { f.Proto = 0 }, api.ErrArg},
		{"a low protocol", func(f *api.Flow) { f.Proto = math.MinInt }, api.ErrArg},
		{"a high protocol", func(f *api.Flow) { f.Proto = api.MaxProto + 1 }, api.ErrArg},
		{"From", func(f *api.Flow) { f.From = api.Addr{Lo: 1 << 32} }, api.ErrForm},
		{"To", func(f *api.Flow) { f.To = api.Addr{Hi: 1} }, api.ErrForm},
		{"To is longer", func(f *api.Flow) { f.To.Six = true }, api.ErrType},
		{"From is longer", func(f *api.Flow) { f.From.Six = true }, api.ErrType},
		{"a low FromPort", func(f *api.Flow) { f.FromPort = -1 }, api.ErrArg},
		{"a high FromPort", func(f *api.Flow) { f.FromPort = api.MaxPort + 1 }, api.ErrArg},
		{"a low ToPort", func(f *api.Flow) { f.ToPort = math.MinInt }, api.ErrArg},
		{"a high ToPort", func(f *api.Flow) { f.ToPort = math.MaxInt }, api.ErrArg},
		{"a FromPort of ICMP", func(f *api.Flow) { f.Proto, f.ToPort = 1, 0 }, api.ErrArg},
		{"a ToPort of ICMP", func(f *api.Flow) { f.Proto, f.FromPort = 1, 0 }, api.ErrArg},
	}
	for _, c := range breaks {
		f := right
		c.do(&f)
		is(t, c.name, Flow(f), c.e)
	}
	// Each one is told ahead of the addresses and ports that are wrong behind it.
	f := right
	f.ToPort = -1
	for _, i := range []int{5, 4, 3, 2} {
		breaks[i].do(&f)
		is(t, breaks[i].name, Flow(f), breaks[i].e)
	}
	is(t, "nothing", Flow(api.Flow{}), api.ErrArg)
	is(t, "the first port of ICMP", Flow(api.Flow{Proto: 1, ToPort: 1}), api.ErrArg)
	for proto := 1; proto <= api.MaxProto; proto++ {
		is(t, "no ports", Flow(api.Flow{Proto: proto}), api.OK)
		want := api.ErrArg
		if proto == api.ProtoTcp || proto == api.ProtoUdp {
			want = api.OK
		}
		is(t, "ToPort", Flow(api.Flow{Proto: proto, ToPort: api.MaxPort}), want)
		is(t, "FromPort", Flow(api.Flow{Proto: proto, FromPort: api.MaxPort}), want)
	}
	is(t, "128 bits", Flow(api.Flow{Proto: 6, From: api.Addr{Six: true, Hi: 1}, To: api.Addr{Six: true}}), api.OK)
}
