package addr_test

import (
	"math"
	"math/rand"
	"net/netip"
	"strings"
	"testing"

	"holloway/addr"
	"holloway/api"
)

var wrongAddrs = []api.Addr{{Lo: 1 << 32}, {Hi: 1}, {Hi: 1, Lo: 1 << 32}, {Lo: math.MaxUint64}, {Hi: 1 << 63}}

// P1.1
func TestCheckAddr(t *testing.T) {
	for _, a := range []api.Addr{{}, {Lo: 1<<32 - 1}, six(0, 0), six(0, 1<<32), six(1, 0), six(math.MaxUint64, math.MaxUint64)} {
		is(t, "CheckAddr", addr.CheckAddr(a), api.OK)
	}
	for _, a := range wrongAddrs {
		is(t, "CheckAddr", addr.CheckAddr(a), api.ErrForm)
		is(t, "Text", all(addr.Text(a)), all("", api.ErrForm))
	}
}

// P1.1
func TestCompare(t *testing.T) {
	rising := []api.Addr{
		{}, {Lo: 1}, {Lo: 1 << 31}, {Lo: 1<<32 - 1}, {Lo: 1 << 32}, {Lo: math.MaxUint64}, {Hi: 1}, {Hi: 1 << 63, Lo: 7},
		six(0, 0), six(0, 1), six(0, 1<<63), six(0, math.MaxUint64), six(1, 0), six(1, 1), six(1<<63, 0), six(math.MaxUint64, math.MaxUint64),
	}
	for i, a := range rising {
		for k, b := range rising {
			want := 0
			if i < k {
				want = -1
			} else if i > k {
				want = 1
			}
			is(t, "Compare", addr.Compare(a, b), want)
		}
	}
}

// texts are addresses and the one text of each.
var texts = []struct {
	a    api.Addr
	text string
}{
	{v4(0, 0, 0, 0), "0.0.0.0"},
	{v4(10, 0, 0, 1), "10.0.0.1"},
	{v4(255, 255, 255, 255), "255.255.255.255"},
	{v4(1, 20, 103, 200), "1.20.103.200"},
	{six(0, 0), "::"},
	{six(0, 1), "::1"},
	{six(1<<48, 0), "1::"},
	{six(0x20010db800000000, 1), "2001:db8::1"},
	{six(0x0001000000000002, 3), "1:0:0:2::3"},
	{six(0x0001000000000000, 0x0002000000000003), "1::2:0:0:3"},
	{six(0x0000000000010000, 0x0000000100000001), "::1:0:0:1:0:1"},
	{six(0x0000000000010002, 0x0003000400000000), "::1:2:3:4:0:0"},
	{six(0x0000000100020003, 0x0004000500000000), "0:1:2:3:4:5::"},
	{six(0x0001000200000004, 0x0005000600070008), "1:2:0:4:5:6:7:8"},
	{six(0x0000000100020003, 0x0004000500060007), "0:1:2:3:4:5:6:7"},
	{six(0x0001000200030004, 0x0005000600070000), "1:2:3:4:5:6:7:0"},
	{six(0, 0xffff01020304), "::ffff:102:304"},
	{six(0xabcdef0123456789, 0x00ab0c0d00e0f000), "abcd:ef01:2345:6789:ab:c0d:e0:f000"},
	{six(math.MaxUint64, math.MaxUint64), "ffff:ffff:ffff:ffff:ffff:ffff:ffff:ffff"},
}

// P1.1
func TestText(t *testing.T) {
	for _, c := range texts {
		is(t, "Text", all(addr.Text(c.a)), all(c.text, api.OK))
		is(t, "Parse "+c.text, all(addr.Parse(c.text)), all(c.a, api.OK))
		is(t, "Loose "+c.text, all(addr.Loose(c.text)), all(c.a, api.OK))
	}
}

// looser are strings that only Loose takes.
var looser = []struct {
	s string
	a api.Addr
}{
	{"2001:DB8:0:0:0:0:0:1", six(0x20010db800000000, 1)},
	{"2001:0db8::0001", six(0x20010db800000000, 1)},
	{"2001:db8::0.0.0.1", six(0x20010db800000000, 1)},
	{"0:0:0:0:0:0:0:0", six(0, 0)},
	{"0000::0000", six(0, 0)},
	{"::0", six(0, 0)},
	{"0::", six(0, 0)},
	{"::0.0.0.0", six(0, 0)},
	{"::1.2.3.4", six(0, 0x01020304)},
	{"::ffff:255.255.255.255", six(0, 0xffffffffffff)},
	{"1:2:3:4:5:6:7::", six(0x0001000200030004, 0x0005000600070000)},
	{"::2:3:4:5:6:7:8", six(0x0000000200030004, 0x0005000600070008)},
	{"1:2:3::5:6:7:8", six(0x0001000200030000, 0x0005000600070008)},
	{"1:2:3:4:5:6:7.8.9.10", six(0x0001000200030004, 0x000500060708090a)},
	{"1:2:3:4:5::7.8.9.10", six(0x0001000200030004, 0x000500000708090a)},
	{"1::7.8.9.10", six(1<<48, 0x0708090a)},
	{"1:0:0:2:0:0:0:3", six(0x0001000000000002, 3)},
	{"1::2:0:0:0:3", six(0x0001000000000002, 3)},
	{"aBcD:EF01::", six(0xabcdef0100000000, 0)},
}

// P1.1
func TestLoose(t *testing.T) {
	for _, c := range looser {
		is(t, "Loose "+c.s, all(addr.Loose(c.s)), all(c.a, api.OK))
		is(t, "Parse "+c.s, all(addr.Parse(c.s)), all(api.Addr{}, api.ErrSyntax))
	}
}

// noAddrs are strings that say no address.
var noAddrs = []string{
	"", " ", ".", ":", ":::", "::::", "1", "x", "1.2.3", "1.2.3.4.5", "01.2.3.4", "1.2.3.04", "00.0.0.0", "256.1.1.1", "1.2.3.256",
	"1.2.3.999", "1.2.3.1000", "1.2.3.", ".1.2.3", "1..2.3", "-1.2.3.4", "+1.2.3.4", "1.2.3.4 ", " 1.2.3.4", "1.2.3.4\n", "1.2.3.a", "1.2.3.4/8",
	"1:2:3:4:5:6:7", "1:2:3:4:5:6:7:8:9", "1:2:3:4:5:6:7:8::", "::1:2:3:4:5:6:7:8", "1:2:3:4::5:6:7:8", "1::2::3", "1:::2", ":1", "1:", ":1::", "::1:",
	":1:2:3:4:5:6:7", "1:2:3:4:5:6:7:", "1:2:3:4:5:6:7:8:", "12345::", "00001::", "g::", "::g", "1:2:3:4:5:6:7:1.2.3.4", "1:2:3:4:5:1.2.3.4", "1:2:3:4:5:6::1.2.3.4",
	"1.2.3.4::", "1.2.3.4:1:2:3:4:5:6", "::1.2.3.4:5", "::1.2.3", "::1.2.3.4.5", "::01.2.3.4", "::1.2.3.256", "::1.2.3.a", "::%1", "fe80::1%eth0", "[::1]", "::1/128",
	"0x1::", "+1::", "-1::", "1_0::", "::1 ", "::\x11", "::é", "1:2:3:4:5:6:7:8\x00", "1.2.3.4::1.2.3.4", "ABCD", "٣.0.0.1",
}

// P1.1
func TestNoAddr(t *testing.T) {
	for _, s := range append(noAddrs, strings.Repeat(":", 200_000), strings.Repeat("1.", 100_000), strings.Repeat("9", 200_000)) {
		is(t, "Loose "+s, all(addr.Loose(s)), all(api.Addr{}, api.ErrSyntax))
		is(t, "Parse "+s, all(addr.Parse(s)), all(api.Addr{}, api.ErrSyntax))
	}
}

// withGroups is an address of 128 bits with some groups that are 0.
func withGroups(r *rand.Rand) api.Addr {
	a := six(r.Uint64(), r.Uint64())
	for i := range 4 {
		if r.Intn(2) == 0 {
			a.Hi &^= 0xffff << (16 * i)
		}
		if r.Intn(2) == 0 {
			a.Lo &^= 0xffff << (16 * i)
		}
		if r.Intn(3) == 0 {
			a.Lo &^= 0xfff0 << (16 * i)
		}
	}
	return a
}

func toNetip(a api.Addr) netip.Addr {
	var b [16]byte
	for i := range 8 {
		b[i], b[i+8] = byte(a.Hi>>(56-8*i)), byte(a.Lo>>(56-8*i))
	}
	if a.Six {
		return netip.AddrFrom16(b)
	}
	return netip.AddrFrom4([4]byte(b[12:]))
}

// P1.1: Text writes as another library does, but for addresses that it writes with points.
func TestTextLikeNetip(t *testing.T) {
	r := rand.New(rand.NewSource(1))
	for range 20_000 {
		a := withGroups(r)
		if r.Intn(4) == 0 {
			a = api.Addr{Lo: uint64(r.Uint32())}
		}
		s, e := addr.Text(a)
		if n := toNetip(a); !n.Is4In6() {
			is(t, "Text", all(s, e), all(n.String(), api.OK))
		}
		is(t, "Parse", all(addr.Parse(s)), all(a, api.OK))
		is(t, "Loose", all(addr.Loose(strings.ToUpper(s))), all(a, api.OK))
		is(t, "Loose", all(addr.Loose(toNetip(a).StringExpanded())), all(a, api.OK))
	}
}

// P1.1: Loose takes what another library takes, and Parse just those that are the Text of an address.
func TestLooseLikeNetip(t *testing.T) {
	r := rand.New(rand.NewSource(2))
	signs := "0123456789abcdefABCDEF:::...g -"
	for range 200_000 {
		s := []byte(toNetip(withGroups(r)).String())
		if r.Intn(3) == 0 {
			s = []byte("1:2::" + toNetip(api.Addr{Lo: uint64(r.Uint32())}).String())
		}
		for range r.Intn(4) {
			switch i := r.Intn(len(s) + 1); {
			case i == len(s) || r.Intn(3) == 0:
				s = append(s[:i], append([]byte{signs[r.Intn(len(signs))]}, s[i:]...)...)
			case r.Intn(2) == 0:
				s = append(s[:i], s[i+1:]...)
			default:
				s[i] = signs[r.Intn(len(signs))]
			}
		}
		n, err := netip.ParseAddr(string(s))
		a, e := addr.Loose(string(s))
		if (err == nil) != (e == api.OK) || err == nil && toNetip(a) != n {
			t.Fatalf("Loose %q: %v, %v", s, a, e)
		}
		text, _ := addr.Text(a)
		if p, e := addr.Parse(string(s)); (e == api.OK) != (err == nil && text == string(s)) || e == api.OK && p != a {
			t.Fatalf("Parse %q: %v", s, e)
		}
	}
}
