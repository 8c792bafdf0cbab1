package name_test

import (
	"fmt"
	"regexp"
	"slices"
	"strings"
	"testing"

	"holloway/api"
	"holloway/name"
)

var (
	label63 = strings.Repeat("a", api.MaxLabel)
	isLabel = regexp.MustCompile(`^_?[a-z0-9]([a-z0-9-]*[a-z0-9])?$`)
	tooLong = long(api.MaxDomain+1, "x")
)

// domainErrno is a second telling of CheckDomain.
func domainErrno(s string) api.Errno {
	if len(s) > 253 {
		return api.ErrLarge
	}
	for _, label := range strings.Split(s, ".") {
		if len(label) > 63 || !isLabel.MatchString(label) {
			return api.ErrName
		}
	}
	return api.OK
}

// P6.1
func TestCheckDomain(t *testing.T) {
	for _, s := range []string{"a", "z", "0", "9", "a.b-c.d", "9.0", "a-b", "a--b", "0-9", "_x.y", "_0", "_a-b", "x._y._z", "a.a", label63, "_" + label63[1:], label63 + "." + label63, long(api.MaxDomain, "x"), strings.Repeat("a.", 126) + "a"} {
		is(t, s, name.CheckDomain(s), api.OK)
	}
	for _, s := range []string{"", ".", "..", "a.", ".a", "a..b", "-", "-a", "a-", "a.-", "a.b-.c", "a.-b.c", "A", "a.B", "aZ", "_", "_.a", "a._", "__a", "a_", "a_b", "_-a", "_a-", "_-", "-_a", "a b", " a", "a ", "é", "aé", "a\n", "a\x00", "\xff", "*", "*.a", "a/b", "a:b", "a`b", "a{b", "a@b", "a[b", "a,b", label63 + "a", "_" + label63, "b." + label63 + "a.b", strings.Repeat(".", api.MaxDomain)} {
		is(t, s, name.CheckDomain(s), api.ErrName)
	}
	for _, s := range []string{tooLong, strings.Repeat(".", api.MaxDomain+1), strings.Repeat("A", api.MaxDomain+1), strings.Repeat("a.", 126) + "aa"} {
		is(t, s, name.CheckDomain(s), api.ErrLarge)
	}
	is(t, "a byte too much", len(tooLong), api.MaxDomain+1)
	for b := range 256 {
		for _, ahead := range []string{"", "a"} {
			for _, behind := range []string{"", "a"} {
				s := ahead + string([]byte{byte(b)}) + behind
				is(t, fmt.Sprintf("%q", s), name.CheckDomain(s), domainErrno(s))
			}
		}
	}
	r := newChance(1)
	right := 0
	for range 20_000 {
		s := r.of(8, "aab0-_..A")
		is(t, s, name.CheckDomain(s), domainErrno(s))
		if domainErrno(s) == api.OK {
			right++
		}
	}
	if right < 2_000 {
		t.Errorf("%d are right", right)
	}
}

// P6.1
func TestUnder(t *testing.T) {
	for _, c := range []struct {
		name, zone string
		want       bool
	}{
		{"a.net.x", "net.x", true}, {"a.b.net.x", "net.x", true}, {"net.x", "net.x", true}, {"anet.x", "net.x", false}, {"x", "net.x", false}, {"net.x", "x", true},
		{"a.net.y", "net.x", false}, {"net.x.a", "net.x", false}, {"a.net.x", "b.net.x", false}, {"a-net.x", "net.x", false}, {"_net.x", "net.x", false}, {"x.x", "x", true}, {"xx", "x", false},
	} {
		is(t, c.name+" under "+c.zone, all(name.Under(c.name, c.zone)), all(c.want, api.OK))
	}
	twoNames(t, func(a, b string) api.Errno { _, e := name.Under(a, b); return e })
	forPairs(t, func(a, b string) {
		ahead, zone := strings.Split(a, "."), strings.Split(b, ".")
		n := len(ahead) - len(zone)
		is(t, a+" under "+b, all(name.Under(a, b)), all(n >= 0 && slices.Equal(ahead[max(n, 0):], zone), api.OK))
	})
}

// P6.1
func TestCompare(t *testing.T) {
	for _, c := range []struct {
		a, b string
		want int
	}{
		{"a", "a", 0}, {"z.a", "a.b", -1}, {"a.b", "z.a", 1}, {"a", "z.a", -1}, {"z.a", "a", 1}, {"a.x", "b.x", -1}, {"b.a.x", "a.b.x", -1}, {"b.a.x", "b.x", -1},
		// Bytewise within labels, but a label that ends is less, whatever stands behind it.
		{"a.x", "a0.x", -1}, {"b.a", "a.a-b", -1}, {"a.a-b", "b.a", 1}, {"_a", "a", -1}, {"0", "_0", -1}, {"a.b-c", "a.b", 1}, {"a-b.x", "a.x", 1},
	} {
		is(t, c.a+" and "+c.b, all(name.Compare(c.a, c.b)), all(c.want, api.OK))
	}
	twoNames(t, func(a, b string) api.Errno { _, e := name.Compare(a, b); return e })
	// With bytes that are less than all others between labels, the order of labels is that of bytes.
	flat := func(s string) string {
		l := strings.Split(s, ".")
		slices.Reverse(l)
		return strings.Join(l, "\x00")
	}
	forPairs(t, func(a, b string) {
		is(t, a+" and "+b, all(name.Compare(a, b)), all(strings.Compare(flat(a), flat(b)), api.OK))
	})
}

// twoNames looks at the errors of a function of two names.
func twoNames(t *testing.T, f func(a, b string) api.Errno) {
	t.Helper()
	for _, c := range []struct {
		a, b string
		want api.Errno
	}{
		{"a", "b", api.OK}, {"", "b", api.ErrName}, {"a", "", api.ErrName}, {"a", "b.", api.ErrName}, {tooLong, "b", api.ErrLarge}, {"a", tooLong, api.ErrLarge},
		{tooLong, "B", api.ErrLarge}, {"A", tooLong, api.ErrName}, {"*.a", "a", api.ErrName},
	} {
		is(t, fmt.Sprintf("%.9q, %.9q", c.a, c.b), f(c.a, c.b), c.want)
	}
}

// forPairs goes through pairs of domain names, of which many have an end in common.
func forPairs(t *testing.T, f func(a, b string)) {
	t.Helper()
	r := newChance(2)
	for range 5_000 {
		var pair [2]string
		for i := range pair {
			labels := repeat(1+r.Intn(3), func(int) string { return pick(r, words("a b aa a-b a0 _a")) })
			pair[i] = strings.Join(labels, ".")
		}
		f(pair[0], pair[1])
	}
}
