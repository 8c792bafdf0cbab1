package addr_test

import (
	"math"
	"testing"

	"holloway/addr"
	"holloway/api"
)

const siteHi = 0xfd006c616e650000

// P1.7, Z4
func TestVia(t *testing.T) {
	for _, c := range []struct {
		site int
		p    string
		lo   uint64
		bits int
	}{
		{7, "10.1.0.0/16", 7<<32 | 0x0a010000, 112}, {0, "0.0.0.0/0", 0, 96}, {65_535, "255.255.255.255/32", 0xffffffffffff, 128}, {1, "0.0.0.0/32", 1 << 32, 128}, {65_535, "0.0.0.0/0", 0xffff00000000, 96},
	} {
		q := api.Prefix{Addr: six(siteHi, c.lo), Bits: c.bits}
		is(t, "Via", all(addr.Via(c.site, net(c.p))), all(q, api.OK))
		is(t, "Site", all(addr.Site(q)), all(c.site, net(c.p), api.OK))
	}
	for _, site := range []int{-1, 65_536, 1 << 32, math.MinInt, math.MaxInt} {
		is(t, "Via", all(addr.Via(site, net("10.0.0.0/8"))), all(api.Prefix{}, api.ErrArg))
		is(t, "Via", all(addr.Via(site, net("10.0.0.1/8"))), all(api.Prefix{}, api.ErrArg))
	}
	for _, c := range badPrefixes {
		is(t, "Via", all(addr.Via(1, c.p)), all(api.Prefix{}, c.e))
		is(t, "Site", all(addr.Site(c.p)), all(0, api.Prefix{}, c.e))
	}
	is(t, "Via", all(addr.Via(1, net("::/0"))), all(api.Prefix{}, api.ErrType))
	is(t, "Via", all(addr.Via(65_536, net("::/0"))), all(api.Prefix{}, api.ErrArg))
}

// P1.7
func TestNoSite(t *testing.T) {
	for _, p := range []api.Prefix{
		net("0.0.0.0/0"), net("10.0.0.0/8"), net("::/0"), net("::/96"), net("::10.0.0.0/104"), net("fd00::/96"),
		{Addr: six(siteHi, 0), Bits: 95}, {Addr: six(siteHi, 0), Bits: 64}, {Addr: six(siteHi, 1<<48), Bits: 96}, {Addr: six(siteHi, 1<<63), Bits: 128}, {Addr: six(siteHi+1, 0), Bits: 96}, {Addr: six(siteHi|1, 7<<32), Bits: 128},
	} {
		is(t, "Site", all(addr.Site(p)), all(0, api.Prefix{}, api.ErrNone))
	}
}
