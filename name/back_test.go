package name_test

import (
	"fmt"
	"math"
	"slices"
	"strings"
	"testing"

	"holloway/api"
	"holloway/name"
)

// backOf is a second telling of Back.
func backOf(a api.Addr) string {
	if !a.Six {
		return fmt.Sprintf("%d.%d.%d.%d.in-addr.arpa", a.Lo&255, a.Lo>>8&255, a.Lo>>16&255, a.Lo>>24)
	}
	digits := strings.Split(fmt.Sprintf("%016x%016x", a.Hi, a.Lo), "")
	slices.Reverse(digits)
	return strings.Join(digits, ".") + ".ip6.arpa"
}

// P6.3
func TestBack(t *testing.T) {
	for a, want := range map[string]string{
		"10.0.0.1": "1.0.0.10.in-addr.arpa", "0.0.0.0": "0.0.0.0.in-addr.arpa", "255.254.253.252": "252.253.254.255.in-addr.arpa",
		"::":                                     strings.Repeat("0.", 32) + "ip6.arpa",
		"fedc:ba98:7654:3210:123:4567:89ab:cdef": "f.e.d.c.b.a.9.8.7.6.5.4.3.2.1.0.0.1.2.3.4.5.6.7.8.9.a.b.c.d.e.f.ip6.arpa",
		"::a00:1":                                "1.0.0.0.0.0.a." + strings.Repeat("0.", 25) + "ip6.arpa",
	} {
		is(t, a, all(name.Back(ip(a))), all(want, api.OK))
		is(t, want, all(name.BackTo(want)), all(ip(a), true, api.OK))
	}
	for _, a := range []api.Addr{{Hi: 1}, {Lo: 1 << 32}, {Hi: math.MaxUint64, Lo: math.MaxUint64}} {
		is(t, fmt.Sprint(a), all(name.Back(a)), all("", api.ErrForm))
	}
	r := newChance(5)
	for range 2_000 {
		a := api.Addr{Lo: uint64(r.Uint32())}
		if r.Intn(2) == 0 {
			a = api.Addr{Six: true, Hi: r.Uint64(), Lo: r.Uint64()}
		}
		s := backOf(a)
		is(t, s, all(name.Back(a)), all(s, api.OK))
		is(t, s, all(name.BackTo(s)), all(a, true, api.OK))
	}
}

// P6.3
func TestBackTo(t *testing.T) {
	no := strings.Repeat("0.", 31)
	for _, s := range []string{
		"a", "in-addr.arpa", "ip6.arpa", "arpa", "0.in-addr.arpa", "0.0.10.in-addr.arpa", "1.0.0.0.10.in-addr.arpa", "1.0.0.10.0.0.0.0.0.in-addr.arpa", "1.0.0.10.0.0.0.0.1.in-addr.arpa", "1.0.0.10.0.in-addr.arpa",
		"01.0.0.10.in-addr.arpa", "1.0.00.10.in-addr.arpa", "1.0.0.010.in-addr.arpa", "256.0.0.10.in-addr.arpa", "1.0.0.256.in-addr.arpa", "1.0.0.a.in-addr.arpa", "a.0.0.1.in-addr.arpa", "0x1.0.0.1.in-addr.arpa", "1-0.0.0.1.in-addr.arpa", "_1.0.0.1.in-addr.arpa",
		"18446744073709551617.0.0.10.in-addr.arpa", "a.1.0.0.10.in-addr.arpa", "1.0.0.10.ip6.arpa", "1.0.0.10.in-addr.arpa.x", "1.0.0.10", "1.0.0.10.arpa", "1.0.0.10in-addr.arpa", "1.0.0.10.in-addr.arpa.in-addr.arpa",
		no + "ip6.arpa", no + "0.0.ip6.arpa", no + "00.ip6.arpa", no + "g.ip6.arpa", no + "10.ip6.arpa", "00." + no + "ip6.arpa", no + "0.in-addr.arpa", no + "0", no + "0.ip6.arpa.x", strings.Repeat("0.", 64) + "ip6.arpa", no + "_0.ip6.arpa",
	} {
		is(t, s, all(name.BackTo(s)), all(api.Addr{}, false, api.OK))
	}
	for s, want := range map[string]api.Errno{"": api.ErrName, "1.0.0.10.in-addr.arpa.": api.ErrName, "1.0.0.10.IN-ADDR.arpa": api.ErrName, "-1.0.0.10.in-addr.arpa": api.ErrName, no + "A.ip6.arpa": api.ErrName, "1..0.10.in-addr.arpa": api.ErrName, tooLong: api.ErrLarge} {
		is(t, s, all(name.BackTo(s)), all(api.Addr{}, false, want))
	}
	// Of other names there is none: what is read is written as it was.
	r := newChance(6)
	for range 5_000 {
		b := []byte(backOf(api.Addr{Lo: uint64(r.Uint32())}))
		b[r.Intn(12)] = pick(r, []byte("0123456789."))
		if a, yes, e := name.BackTo(string(b)); yes && (e != api.OK || backOf(a) != string(b)) {
			t.Errorf("%s: %v, %v", b, a, e)
		}
	}
}
