package addr_test

import (
	"math"
	"math/rand"
	"net/netip"
	"testing"

	"holloway/addr"
	"holloway/api"
)

// badPrefixes are prefixes that are not right, and their errors.
var badPrefixes = []struct {
	p api.Prefix
	e api.Errno
}{
	{api.Prefix{Addr: api.Addr{Hi: 1}, Bits: -1}, api.ErrForm},
	{api.Prefix{Addr: api.Addr{Lo: 1 << 32}, Bits: 8}, api.ErrForm},
	{api.Prefix{Bits: -1}, api.ErrArg},
	{api.Prefix{Bits: 33}, api.ErrArg},
	{api.Prefix{Addr: v4(10, 0, 0, 1), Bits: 33}, api.ErrArg},
	{api.Prefix{Addr: six(0, 0), Bits: -1}, api.ErrArg},
	{api.Prefix{Addr: six(1, 1), Bits: 129}, api.ErrArg},
	{api.Prefix{Bits: math.MaxInt}, api.ErrArg},
	{api.Prefix{Bits: math.MinInt}, api.ErrArg},
	{net("10.0.0.1/31"), api.ErrForm},
	{net("128.0.0.0/0"), api.ErrForm},
	{net("10.0.0.0/6"), api.ErrForm},
	{net("::1/127"), api.ErrForm},
	{net("8000::/0"), api.ErrForm},
	{net("0:0:0:1::/63"), api.ErrForm},
	{net("::8000:0:0:0/64"), api.ErrForm},
	{net("::1/64"), api.ErrForm},
	{net("::1/0"), api.ErrForm},
}

// P1.2, Z4
func TestCheckPrefix(t *testing.T) {
	for _, p := range nets("0.0.0.0/0 0.0.0.0/32 10.0.0.0/7 10.0.0.0/8 10.0.0.1/32 255.255.255.255/32 255.255.255.254/31 128.0.0.0/1 ::/0 ::/128 ::1/128 0:0:0:1::/64 ::8000:0:0:0/65 8000::/1 ffff::/16") {
		is(t, "CheckPrefix", addr.CheckPrefix(p), api.OK)
	}
	for _, c := range badPrefixes {
		is(t, "CheckPrefix", addr.CheckPrefix(c.p), c.e)
		is(t, "Last", all(addr.Last(c.p)), all(api.Addr{}, c.e))
		is(t, "PrefixText", all(addr.PrefixText(c.p)), all("", c.e))
		is(t, "Contains", all(addr.Contains(c.p, api.Addr{})), all(false, c.e))
		is(t, "Contains", all(addr.Contains(c.p, api.Addr{Hi: 1})), all(false, c.e))
		is(t, "Inside", all(addr.Inside(c.p, net("::/0"))), all(false, c.e))
		is(t, "Inside", all(addr.Inside(net("::/0"), c.p)), all(false, c.e))
		is(t, "Common", all(addr.Common(c.p, net("::/0"))), all(api.Prefix{}, c.e))
		is(t, "Common", all(addr.Common(net("0.0.0.0/0"), c.p)), all(api.Prefix{}, c.e))
	}
}

// P1.2, Z4
func TestMask(t *testing.T) {
	for _, c := range []struct {
		a    string
		bits int
		want string
	}{
		{"10.1.2.3", 8, "10.0.0.0/8"},
		{"10.1.2.3", 0, "0.0.0.0/0"},
		{"10.1.2.3", 32, "10.1.2.3/32"},
		{"255.255.255.255", 1, "128.0.0.0/1"},
		{"255.255.255.255", 31, "255.255.255.254/31"},
		{"2001:db8::1", 0, "::/0"},
		{"2001:db8::1", 32, "2001:db8::/32"},
		{"ffff:ffff:ffff:ffff:ffff:ffff:ffff:ffff", 63, "ffff:ffff:ffff:fffe::/63"},
		{"ffff:ffff:ffff:ffff:ffff:ffff:ffff:ffff", 64, "ffff:ffff:ffff:ffff::/64"},
		{"ffff:ffff:ffff:ffff:ffff:ffff:ffff:ffff", 65, "ffff:ffff:ffff:ffff:8000::/65"},
		{"::3", 127, "::2/127"},
		{"::3", 128, "::3/128"},
	} {
		is(t, "Mask", all(addr.Mask(at(c.a), c.bits)), all(net(c.want), api.OK))
	}
	for _, n := range []int{-1, 33, 128, math.MinInt, math.MaxInt} {
		is(t, "Mask", all(addr.Mask(v4(10, 0, 0, 0), n)), all(api.Prefix{}, api.ErrArg))
		is(t, "Mask", all(addr.Mask(api.Addr{Hi: 1}, n)), all(api.Prefix{}, api.ErrForm))
	}
	is(t, "Mask", all(addr.Mask(six(1, 1), 129)), all(api.Prefix{}, api.ErrArg))
}

// P1.2
func TestLast(t *testing.T) {
	for _, c := range [][2]string{
		{"10.0.0.0/8", "10.255.255.255"}, {"0.0.0.0/0", "255.255.255.255"}, {"1.2.3.4/32", "1.2.3.4"}, {"1.2.3.4/31", "1.2.3.5"},
		{"::/0", "ffff:ffff:ffff:ffff:ffff:ffff:ffff:ffff"}, {"1::/64", "1::ffff:ffff:ffff:ffff"}, {"1::/63", "1:0:0:1:ffff:ffff:ffff:ffff"}, {"1::/65", "1::7fff:ffff:ffff:ffff"}, {"::7/128", "::7"},
	} {
		is(t, "Last", all(addr.Last(net(c[0]))), all(at(c[1]), api.OK))
	}
}

// P1.2
func TestContains(t *testing.T) {
	for _, c := range []struct {
		p, a string
		want bool
	}{
		{"10.0.0.0/8", "10.0.0.0", true}, {"10.0.0.0/8", "10.255.255.255", true}, {"10.0.0.0/8", "11.0.0.0", false}, {"10.0.0.0/8", "9.255.255.255", false},
		{"0.0.0.0/0", "255.0.0.1", true}, {"0.0.0.0/0", "::1", false}, {"::/0", "0.0.0.1", false}, {"::/128", "0.0.0.0", false}, {"::/96", "::1.2.3.4", true},
		{"1::/64", "1::ffff:ffff:ffff:ffff", true}, {"1::/64", "1:0:0:1::", false}, {"::1/128", "::1", true}, {"::1/128", "::2", false}, {"8000::/1", "7fff::", false},
	} {
		is(t, "Contains "+c.p+" "+c.a, all(addr.Contains(net(c.p), at(c.a))), all(c.want, api.OK))
	}
	for _, a := range wrongAddrs {
		is(t, "Contains", all(addr.Contains(net("::/0"), a)), all(false, api.ErrForm))
	}
}

// P1.2
func TestInside(t *testing.T) {
	for _, c := range []struct {
		p, q string
		want bool
	}{
		{"10.0.0.0/8", "10.0.0.0/8", true}, {"10.1.0.0/16", "10.0.0.0/8", true}, {"10.0.0.0/8", "10.1.0.0/16", false}, {"10.0.0.0/8", "10.0.0.0/16", false},
		{"11.0.0.0/16", "10.0.0.0/8", false}, {"10.0.0.0/8", "0.0.0.0/0", true}, {"10.0.0.0/8", "::/0", false}, {"::/128", "0.0.0.0/0", false}, {"1::/64", "1::/63", true}, {"1:0:0:1::/64", "1::/64", false},
	} {
		is(t, "Inside "+c.p+" "+c.q, all(addr.Inside(net(c.p), net(c.q))), all(c.want, api.OK))
	}
}

// P1.2
func TestCommon(t *testing.T) {
	for _, c := range [][3]string{
		{"10.0.0.0/24", "10.0.1.0/24", "10.0.0.0/23"}, {"10.0.0.0/8", "10.1.0.0/16", "10.0.0.0/8"}, {"10.1.0.0/16", "10.0.0.0/8", "10.0.0.0/8"}, {"10.0.0.0/8", "10.0.0.0/8", "10.0.0.0/8"},
		{"0.0.0.0/1", "128.0.0.0/1", "0.0.0.0/0"}, {"1.2.3.4/32", "1.2.3.4/32", "1.2.3.4/32"}, {"1.2.3.4/32", "1.2.3.5/32", "1.2.3.4/31"}, {"0.0.0.0/0", "255.255.255.255/32", "0.0.0.0/0"},
		{"::/128", "8000::/128", "::/0"}, {"::/128", "::1/128", "::/127"}, {"1::/128", "1::8000:0:0:0/128", "1::/64"}, {"1::/128", "1:0:0:1::/128", "1::/63"}, {"1::/128", "1::4000:0:0:0/128", "1::/65"},
		{"2001:db8:1::/48", "2001:db8:2::/48", "2001:db8::/46"}, {"::5/128", "::5/128", "::5/128"},
	} {
		is(t, "Common "+c[0]+" "+c[1], all(addr.Common(net(c[0]), net(c[1]))), all(net(c[2]), api.OK))
	}
	is(t, "Common", all(addr.Common(net("0.0.0.0/0"), net("::/0"))), all(api.Prefix{}, api.ErrType))
	is(t, "Common", all(addr.Common(net("::/0"), net("10.0.0.0/8"))), all(api.Prefix{}, api.ErrType))
}

// P1.2: what the functions say of prefixes agrees with another library.
func TestPrefixLikeNetip(t *testing.T) {
	r := rand.New(rand.NewSource(3))
	for range 20_000 {
		a, length := withGroups(r), 128
		if r.Intn(2) == 0 {
			a, length = api.Addr{Lo: uint64(r.Uint32())}, 32
		}
		b := a
		if k := r.Intn(128); k < 64 {
			b.Lo ^= 1 << (k % min(length, 64))
		} else if a.Six {
			b.Hi ^= 1 << (k - 64)
		}
		p, _ := addr.Mask(a, r.Intn(length+1))
		q, _ := addr.Mask(b, r.Intn(length+1))
		n, m := netip.PrefixFrom(toNetip(a), p.Bits).Masked(), netip.PrefixFrom(toNetip(b), q.Bits).Masked()
		is(t, "Mask", toNetip(p.Addr), n.Addr())
		is(t, "CheckPrefix", addr.CheckPrefix(api.Prefix{Addr: a, Bits: p.Bits}) == api.OK, n.Addr() == toNetip(a))
		is(t, "Contains", all(addr.Contains(p, b)), all(n.Contains(toNetip(b)), api.OK))
		is(t, "Inside", all(addr.Inside(p, q)), all(m.Contains(n.Addr()) && m.Bits() <= n.Bits(), api.OK))
		c, e := addr.Common(p, q)
		k := min(n.Bits(), m.Bits())
		for netip.PrefixFrom(n.Addr(), k).Masked() != netip.PrefixFrom(m.Addr(), k).Masked() {
			k--
		}
		is(t, "Common", all(toNetip(c.Addr), c.Bits, e), all(netip.PrefixFrom(n.Addr(), k).Masked().Addr(), k, api.OK))
		last, _ := addr.Last(p)
		end, more := addr.Contains(p, last)
		behind := toNetip(last).Next()
		is(t, "Last", all(end, more, behind.IsValid() && n.Contains(behind)), all(true, api.OK, false))
	}
}

// P1.2, Z10
func TestPrefixText(t *testing.T) {
	for _, s := range []string{"0.0.0.0/0", "10.0.0.0/8", "10.0.0.1/32", "::/0", "::/128", "2001:db8::/32", "1:0:0:2::3/128", "ffff::/100"} {
		is(t, "PrefixText", all(addr.PrefixText(net(s))), all(s, api.OK))
		is(t, "ParsePrefix", all(addr.ParsePrefix(s)), all(net(s), api.OK))
	}
	for _, s := range []string{
		"", "/", "10.0.0.0", "10.0.0.0/", "/8", "10.0.0.0/08", "10.0.0.0/+8", "10.0.0.0/-0", "10.0.0.0/-1", "10.0.0.0/33", "10.0.0.0/8 ", " 10.0.0.0/8", "10.0.0.0 /8", "10.0.0.0/ 8", "10.0.0.0//8", "10.0.0.0/8/8",
		"10.0.0.0/8\n", "10.0.0.0/x", "10.0.0.0/0x8", "10.0.0.0/1e1", "10.0.0.0/99999999999999999999", "10.0.0.0/18446744073709551624", "10.0.0.0/008", "0.0.0.0/00",
		"10.0.0.1/8", "10.0.0.0/6", "010.0.0.0/8", "10.0.0/8", "::/129", "::1/127", "0::/0", "::0.0.0.0/0", "2001:DB8::/32", "2001:0db8::/32", "1:2::3::/64", "::1/0", "256.0.0.0/8", "x/8",
	} {
		is(t, "ParsePrefix "+s, all(addr.ParsePrefix(s)), all(api.Prefix{}, api.ErrSyntax))
	}
}
