package addr_test

import (
	"fmt"
	"hash/fnv"
	"math"
	"math/rand"
	"slices"
	"testing"

	"holloway/addr"
	"holloway/api"
)

// single are n leases of single addresses from a number on.
func single(n, from int) []api.Lease {
	names := keys(n)
	return repeat(n, func(i int) api.Lease {
		return api.Lease{Key: names[i], Prefix: api.Prefix{Addr: api.Addr{Lo: uint64(10<<24 + from + i)}, Bits: 32}}
	})
}

// with is a pool with other lists.
func with(p api.Pool, kept []api.Prefix, l []api.Lease) api.Pool {
	return api.Pool{Prefix: p.Prefix, Kept: kept, Leases: l}
}

var (
	wide  = pool("10.0.0.0/16", "", "")
	wrong = api.Prefix{Bits: -1}
)

// badPools are pools that are not right, and their errors.
var badPools = []struct {
	name string
	p    api.Pool
	e    api.Errno
}{
	{"its address", api.Pool{Prefix: api.Prefix{Addr: api.Addr{Hi: 1}, Bits: -1}, Kept: []api.Prefix{wrong}}, api.ErrForm},
	{"its bits", pool("10.0.0.0/33", "10.0.0.1/8", ""), api.ErrArg},
	{"bits behind", pool("10.0.0.1/24", "10.0.0.0/33", "10.0.0.0/33=A"), api.ErrForm},
	{"too many kept", with(wide, repeat(201, func(int) api.Prefix { return wrong }), nil), api.ErrLarge},
	{"too many kept, ahead of leases", with(wide, make([]api.Prefix, 201), make([]api.Lease, 1)), api.ErrLarge},
	{"a kept one", pool("10.0.0.0/24", "10.0.0.0/26 10.0.0.1/26", ""), api.ErrForm},
	{"bits of a kept one, ahead of a rule", pool("10.0.0.0/24", "11.0.0.0/33", ""), api.ErrArg},
	{"a kept one beside", pool("10.0.0.0/24", "10.0.1.0/32", ""), api.ErrRule},
	{"a kept one around", pool("10.0.0.0/24", "10.0.0.0/23", ""), api.ErrRule},
	{"a kept one of the other length", pool("::/0", "10.0.0.0/24", ""), api.ErrRule},
	{"a rule, ahead of the next one", pool("10.0.0.0/24", "10.0.1.0/32 10.0.0.0/33", ""), api.ErrRule},
	{"a rule, ahead of too many leases", with(wide, nets("11.0.0.0/8"), single(201, 0)), api.ErrRule},
	{"too many leases", with(wide, nil, single(201, 0)), api.ErrLarge},
	{"too many leases, and wrong", with(wide, nil, make([]api.Lease, 201)), api.ErrLarge},
	{"a name", pool("10.0.0.0/24", "", "10.0.0.0/33=A"), api.ErrName},
	{"no name", pool("10.0.0.0/24", "", "10.0.0.0/32="), api.ErrName},
	{"a lease", pool("10.0.0.0/24", "", "11.0.0.0/33=a"), api.ErrArg},
	{"bits behind of a lease", pool("10.0.0.0/24", "", "11.0.0.1/8=a"), api.ErrForm},
	{"a lease beside", pool("10.0.0.0/24", "", "10.0.1.0/24=a"), api.ErrRule},
	{"a lease around", pool("10.0.0.0/24", "", "10.0.0.0/23=a"), api.ErrRule},
	{"a lease beside, ahead of its bits", pool("10.0.0.0/8", "", "11.0.0.0/32=a"), api.ErrRule},
	{"a lease too small", pool("10.0.0.0/8", "", "10.0.0.0/29=a"), api.ErrArg},
	{"a lease too small of the other length", pool("1::/32", "", "1::/53=a"), api.ErrArg},
	{"bits, ahead of order", pool("10.0.0.0/8", "", "10.0.0.0/28=b 10.0.0.0/29=a"), api.ErrArg},
	{"keys falling", pool("10.0.0.0/24", "", "10.0.0.0/32=b 10.0.0.1/32=a"), api.ErrOrder},
	{"a key twice", pool("10.0.0.0/24", "", "10.0.0.0/32=b 10.0.0.1/32=b"), api.ErrOrder},
	{"order, ahead of the next one", pool("10.0.0.0/24", "", "10.0.0.0/32=b 10.0.0.1/32=b 10.0.0.0/32=A"), api.ErrOrder},
	{"order, ahead of a conflict", pool("10.0.0.0/24", "10.0.0.0/24", "10.0.0.0/32=b 10.0.0.0/32=a"), api.ErrOrder},
	{"a name, ahead of a conflict", pool("10.0.0.0/24", "10.0.0.0/24", "10.0.0.0/32=b 10.0.0.0/32=B"), api.ErrName},
	{"a conflict", pool("10.0.0.0/24", "10.0.0.0/26", "10.0.0.63/32=a"), api.ErrConflict},
	{"a conflict with the last one kept", pool("10.0.0.0/24", "10.0.0.0/26 10.0.0.128/25", "10.0.0.64/26=a 10.0.0.255/32=b"), api.ErrConflict},
	{"a kept part of a lease", pool("10.0.0.0/24", "10.0.0.7/32", "10.0.0.0/26=a"), api.ErrConflict},
	{"the same twice", pool("10.0.0.0/24", "", "10.0.0.0/26=a 10.0.0.0/26=b"), api.ErrConflict},
	{"a part of an earlier lease", pool("10.0.0.0/24", "", "10.0.0.0/26=a 10.0.0.64/26=b 10.0.0.1/32=c"), api.ErrConflict},
	{"around an earlier lease", pool("10.0.0.0/24", "", "10.0.0.1/32=a 10.0.0.64/26=b 10.0.0.0/26=c"), api.ErrConflict},
}

// P1.6, Z4
func TestCheckPool(t *testing.T) {
	for _, p := range []api.Pool{
		{}, wide, pool("::/0", "", ""), pool("10.0.0.0/24", "10.0.0.0/24", ""), pool("10.0.0.0/24", "10.0.0.0/25 10.0.0.0/26 10.0.0.0/25 10.0.0.1/32", "10.0.0.128/26=a 10.0.0.192/26=b"),
		pool("10.0.0.0/24", "", "10.0.0.0/24=a"), pool("10.0.0.0/24", "", "10.0.0.255/32=a 10.0.0.0/32=b"), pool("10.0.0.0/8", "10.0.0.0/32", "10.0.1.0/28=a"), pool("1::/32", "1::/128", "1:0:0:1000::/52=a"),
		with(wide, repeat(200, func(int) api.Prefix { return net("10.0.0.0/32") }), single(200, 1)),
	} {
		is(t, "CheckPool", addr.CheckPool(p), api.OK)
	}
	none := all(api.Pool{}, api.Prefix{})
	for _, c := range badPools {
		is(t, c.name, addr.CheckPool(c.p), c.e)
		is(t, c.name, all(addr.Free(c.p)), all(nets(""), c.e))
		is(t, c.name, all(addr.Take(c.p, "A", -1)), append(none, c.e))
		is(t, c.name, all(addr.Best(c.p, "A", -1)), append(none, c.e))
		is(t, c.name, all(addr.Pick(c.p, "A")), append(none, c.e))
		is(t, c.name, all(addr.Pack(c.p)), all(api.Pool{}, c.e))
	}
}

// P1.6
func TestFree(t *testing.T) {
	for _, c := range []struct {
		p    api.Pool
		want string
	}{
		{pool("10.0.0.0/24", "", ""), "10.0.0.0/24"},
		{pool("10.0.0.0/24", "10.0.0.0/26", "10.0.0.64/26=a"), "10.0.0.128/25"},
		{pool("10.0.0.0/24", "10.0.0.128/25 10.0.0.128/26 10.0.0.200/32", "10.0.0.0/26=b"), "10.0.0.64/26"},
		{pool("10.0.0.0/24", "10.0.0.0/25", "10.0.0.128/25=a"), ""},
		{pool("10.0.0.0/29", "", "10.0.0.3/32=a"), "10.0.0.0/31 10.0.0.2/32 10.0.0.4/30"},
		{pool("0.0.0.0/0", "128.0.0.0/1", ""), "0.0.0.0/1"},
		{pool("::/0", "8000::/1", "::/2=a"), "4000::/2"},
		{pool("1::/126", "", "1::3/128=a"), "1::/127 1::2/128"},
	} {
		is(t, "Free", all(addr.Free(c.p)), all(nets(c.want), api.OK))
	}
	one := func(i int) api.Prefix { return api.Prefix{Addr: six(uint64(i)<<61, 0), Bits: 128} }
	l, e := addr.Free(api.Pool{Prefix: net("::/0"), Kept: repeat(8, one)})
	is(t, "Free", all(len(l), addr.CheckSet(l), e), all(api.MaxSet, api.OK, api.OK))
	is(t, "Free", all(addr.Free(api.Pool{Prefix: net("::/0"), Kept: append(repeat(8, one), net("::8/128"))})), all(nets(""), api.ErrLarge))
}

type lessor func(p api.Pool, key string, bits int) (api.Pool, api.Prefix, api.Errno)

func pick(p api.Pool, key string, _ int) (api.Pool, api.Prefix, api.Errno) { return addr.Pick(p, key) }

// P1.6, Z4
func TestErrorsOfLeases(t *testing.T) {
	p := pool("10.0.0.0/24", "", "10.0.0.0/26=a 10.0.0.64/26=c")
	full := with(wide, nil, single(api.MaxLeases, 0))
	held := pool("10.0.0.0/24", "10.0.0.128/25", "10.0.0.0/25=a")
	for i, f := range []lessor{addr.Take, addr.Best, pick} {
		refused := func(p api.Pool, key string, bits int, e api.Errno) {
			t.Helper()
			is(t, fmt.Sprint(i, key, bits), all(f(p, key, bits)), all(api.Pool{}, api.Prefix{}, e))
		}
		for _, s := range notKeys {
			refused(p, s, 26, api.ErrName)
			refused(full, s, 99, api.ErrName)
		}
		refused(p, "a", 26, api.ErrTwice)
		refused(p, "c", 99, api.ErrTwice)
		refused(full, "k0000", 99, api.ErrTwice)
		refused(full, "b", 32, api.ErrFull)
		refused(held, "b", 32, api.ErrFull)
	}
	for _, f := range []lessor{addr.Take, addr.Best} {
		for _, n := range []int{23, 33, 0, -1, math.MinInt, math.MaxInt} {
			is(t, "bits", all(f(p, "b", n)), all(api.Pool{}, api.Prefix{}, api.ErrArg))
			is(t, "bits", all(f(held, "b", n)), all(api.Pool{}, api.Prefix{}, api.ErrArg))
		}
		is(t, "bits", all(f(pool("1::/64", "", ""), "b", 85)), all(api.Pool{}, api.Prefix{}, api.ErrArg))
		is(t, "bits", all(f(pool("10.0.0.0/8", "", ""), "b", 29)), all(api.Pool{}, api.Prefix{}, api.ErrArg))
		is(t, "bits", all(f(pool("1::/120", "", ""), "b", 129)), all(api.Pool{}, api.Prefix{}, api.ErrArg))
		is(t, "room", all(f(p, "b", 24)), all(api.Pool{}, api.Prefix{}, api.ErrFull))
		is(t, "bits", all(f(full, "b", 33)), all(api.Pool{}, api.Prefix{}, api.ErrArg))
	}
	is(t, "Pick", all(addr.Pick(pool("10.0.0.0/11", "10.0.0.0/11", ""), "b")), all(api.Pool{}, api.Prefix{}, api.ErrArg))
	is(t, "Pick", all(addr.Pick(pool("::/107", "", ""), "b")), all(api.Pool{}, api.Prefix{}, api.ErrArg))
}

// P1.6
func TestTakeAndBest(t *testing.T) {
	for _, c := range []struct {
		p          api.Pool
		bits       int
		take, best string
	}{
		{pool("10.0.0.0/24", "", ""), 24, "10.0.0.0/24", "10.0.0.0/24"},
		{pool("10.0.0.0/24", "", ""), 32, "10.0.0.0/32", "10.0.0.0/32"},
		{pool("10.0.0.0/8", "", ""), 28, "10.0.0.0/28", "10.0.0.0/28"},
		{pool("1::/64", "", ""), 84, "1::/84", "1::/84"},
		{pool("1::/120", "", ""), 128, "1::/128", "1::/128"},
		{pool("0.0.0.0/0", "0.0.0.0/1", ""), 1, "128.0.0.0/1", "128.0.0.0/1"},
		{pool("10.0.0.0/24", "10.0.0.0/26", ""), 26, "10.0.0.64/26", "10.0.0.64/26"},
		{pool("10.0.0.0/24", "10.0.0.64/26", ""), 25, "10.0.0.128/25", "10.0.0.128/25"},
		{pool("10.0.0.0/24", "10.0.0.128/26", ""), 28, "10.0.0.0/28", "10.0.0.192/28"},
		{pool("10.0.0.0/24", "10.0.0.128/26", ""), 26, "10.0.0.0/26", "10.0.0.192/26"},
		{pool("10.0.0.0/24", "10.0.0.128/26", "10.0.0.200/29=m"), 28, "10.0.0.0/28", "10.0.0.208/28"},
		{pool("10.0.0.0/24", "10.0.0.0/27 10.0.0.96/27", ""), 28, "10.0.0.32/28", "10.0.0.32/28"},
		{pool("10.0.0.0/24", "10.0.0.64/32 10.0.0.128/32", ""), 32, "10.0.0.0/32", "10.0.0.65/32"},
		{pool("10.0.0.0/24", "10.0.0.64/32 10.0.0.128/32", ""), 31, "10.0.0.0/31", "10.0.0.66/31"},
		{pool("10.0.0.0/24", "10.0.0.1/32", ""), 31, "10.0.0.2/31", "10.0.0.2/31"},
	} {
		for i, f := range []lessor{addr.Take, addr.Best} {
			q := net([]string{c.take, c.best}[i])
			out := with(c.p, c.p.Kept, slices.Concat([]api.Lease{{Key: "b", Prefix: q}}, c.p.Leases))
			is(t, "lease", all(f(c.p, "b", c.bits)), all(out, q, api.OK))
		}
	}
}

// P1.6: leases stay in order of keys, whatever the order in which they come.
func TestOrderOfLeases(t *testing.T) {
	p := pool("10.0.0.0/24", "10.0.0.0/32", "")
	for _, key := range []string{"m", "z", "a", "n", "b"} {
		var e api.Errno
		p, _, e = addr.Take(p, key, 32)
		is(t, "Take", all(addr.CheckPool(p), e), all(api.OK, api.OK))
	}
	is(t, "Take", p, pool("10.0.0.0/24", "10.0.0.0/32", "10.0.0.3/32=a 10.0.0.5/32=b 10.0.0.1/32=m 10.0.0.4/32=n 10.0.0.2/32=z"))
	for i, f := range []lessor{addr.Take, addr.Best, pick} {
		p := with(wide, nil, single(api.MaxLeases-1, 0))
		q, _, e := f(p, "a", 32)
		is(t, fmt.Sprint("the last lease ", i), all(len(q.Leases), addr.CheckPool(q), e), all(api.MaxLeases, api.OK, api.OK))
	}
}

// P1.6: Pick uses the sums of keys that a library tells.
func TestPick(t *testing.T) {
	for _, key := range append(keys(50), "a", "x", longKey, "z-_9") {
		h := fnv.New64a()
		h.Write([]byte(key))
		for _, c := range []struct {
			prefix string
			bits   int
		}{
			{"10.0.0.0/24", 8}, {"10.0.0.0/12", 20}, {"16.32.48.64/30", 2}, {"10.0.0.7/32", 0}, {"1::/120", 8}, {"1:2:3:4:5:6:7000::/108", 20}, {"1::9/128", 0},
		} {
			p := net(c.prefix)
			q := p
			q.Addr.Lo += h.Sum64() % (1 << c.bits)
			q.Bits += c.bits
			out := api.Pool{Prefix: p, Leases: []api.Lease{{Key: key, Prefix: q}}}
			is(t, "Pick", all(addr.Pick(api.Pool{Prefix: p}, key)), all(out, q, api.OK))
		}
	}
}

// P1.6: the sum of `a` is 12638187200555641996, which is 12 modulo 16.
func TestPickTheNext(t *testing.T) {
	for _, c := range []struct{ kept, want string }{
		{"", "10.0.0.12/32"}, {"10.0.0.12/32", "10.0.0.13/32"}, {"10.0.0.12/31", "10.0.0.14/32"}, {"10.0.0.12/30", "10.0.0.0/32"}, {"10.0.0.0/29 10.0.0.12/30", "10.0.0.8/32"},
		{"10.0.0.0/32 10.0.0.1/32 10.0.0.12/30", "10.0.0.2/32"}, {"10.0.0.0/29 10.0.0.8/30 10.0.0.12/31 10.0.0.14/32", "10.0.0.15/32"}, {"10.0.0.8/29 10.0.0.0/30 10.0.0.4/31 10.0.0.6/32", "10.0.0.7/32"},
		{"10.0.0.8/30", "10.0.0.12/32"}, {"10.0.0.11/32 10.0.0.13/32", "10.0.0.12/32"},
	} {
		p := pool("10.0.0.0/28", c.kept, "")
		out := with(p, p.Kept, leases(c.want+"=a"))
		is(t, "Pick "+c.kept, all(addr.Pick(p, "a")), all(out, net(c.want), api.OK))
	}
	p := pool("10.0.0.0/28", "", "")
	taken := map[api.Prefix]bool{}
	for _, key := range keys(16) {
		next, q, e := addr.Pick(p, key)
		is(t, "Pick", all(addr.CheckPool(next), taken[q], e), all(api.OK, false, api.OK))
		p, taken[q] = next, true
	}
	is(t, "Pick", all(addr.Pick(p, "a")), all(api.Pool{}, api.Prefix{}, api.ErrFull))
}

// P1.6
func TestPack(t *testing.T) {
	for _, c := range []struct{ kept, before, after string }{
		{"", "", ""},
		{"", "10.0.0.192/26=a 10.0.0.0/32=b 10.0.0.64/27=c", "10.0.0.0/26=a 10.0.0.96/32=b 10.0.0.64/27=c"},
		{"", "10.0.0.9/32=a 10.0.0.5/32=b 10.0.0.128/25=c", "10.0.0.128/32=a 10.0.0.129/32=b 10.0.0.0/25=c"},
		{"10.0.0.0/32", "10.0.0.9/32=a 10.0.0.64/27=b", "10.0.0.1/32=a 10.0.0.32/27=b"},
		{"10.0.0.0/25 10.0.0.0/26", "10.0.0.192/26=a 10.0.0.128/26=b", "10.0.0.128/26=a 10.0.0.192/26=b"},
		{"", "10.0.0.0/24=a", "10.0.0.0/24=a"},
	} {
		is(t, "Pack "+c.before, all(addr.Pack(pool("10.0.0.0/24", c.kept, c.before))), all(pool("10.0.0.0/24", c.kept, c.after), api.OK))
	}
	p := with(wide, nil, single(api.MaxLeases, 300))
	is(t, "Pack", all(addr.Pack(p)), all(with(wide, nil, single(api.MaxLeases, 0)), api.OK))
}

// anyPool is a random pool of the low world of 32 addresses.
func anyPool(r *rand.Rand, w world) (api.Pool, uint64) {
	p := api.Pool{Prefix: w.part(0, 0)}
	var used uint64
	for i := range r.Intn(12) {
		bits := 1 + r.Intn(5)
		cell := r.Intn(32) >> (5 - bits) << (5 - bits)
		c := cells(cell, bits)
		if r.Intn(3) == 0 && len(p.Leases) == 0 {
			p.Kept = append(p.Kept, w.part(cell, bits))
			used |= c
		} else if used&c == 0 {
			p.Leases = append(p.Leases, api.Lease{Key: fmt.Sprintf("k%02d", i), Prefix: w.part(cell, bits)})
			used |= c
		}
	}
	return p, used
}

// first is the first part of so many bits without a part that is used.
func first(w world, used uint64, bits int) (api.Prefix, uint64, bool) {
	for cell := 0; cell < 32; cell += 1 << (5 - bits) {
		if c := cells(cell, bits); used&c == 0 {
			return w.part(cell, bits), c, true
		}
	}
	return api.Prefix{}, 0, false
}

// tightest is what Best finds, going through the parts that are free as sets are written.
func tightest(free []api.Prefix, bits int) (api.Prefix, bool) {
	for n := bits; n >= 0; n-- {
		for _, p := range free {
			if p.Bits == n {
				return api.Prefix{Addr: p.Addr, Bits: bits}, true
			}
		}
	}
	return api.Prefix{}, false
}

// P1.6: pools of a small world are as numbers whose bits are searched.
func TestPoolsLikeBits(t *testing.T) {
	r := rand.New(rand.NewSource(9))
	w := world{low: true}
	for range 5_000 {
		p, used := anyPool(r, w)
		is(t, "CheckPool", addr.CheckPool(p), api.OK)
		free := w.set((1<<32 - 1) &^ used)
		is(t, "Free", all(addr.Free(p)), all(free, api.OK))
		bits := r.Intn(6)
		want, _, ok := first(w, used, bits)
		best, _ := tightest(free, bits+27)
		for i, f := range []lessor{addr.Take, addr.Best} {
			out, q, e := f(p, "z", bits+27)
			if !ok {
				is(t, "lease", all(out, q, e), all(api.Pool{}, api.Prefix{}, api.ErrFull))
				continue
			}
			q1 := []api.Prefix{want, best}[i]
			is(t, "lease", all(out, q, e), all(with(p, p.Kept, append(slices.Clone(p.Leases), api.Lease{Key: "z", Prefix: q1})), q1, api.OK))
		}
		packed, e := addr.Pack(p)
		is(t, "Pack", all(packed, e), all(packedOf(w, p), api.OK))
	}
}

// packedOf is Pack of a pool of a world.
func packedOf(w world, p api.Pool) api.Pool {
	var used uint64
	for cell := range 32 {
		for _, k := range p.Kept {
			if in, _ := addr.Contains(k, w.part(cell, 5).Addr); in {
				used |= 1 << cell
			}
		}
	}
	out := with(p, p.Kept, slices.Clone(p.Leases))
	for bits := range 6 {
		for i, l := range out.Leases {
			if l.Prefix.Bits == bits+27 {
				q, c, _ := first(w, used, bits)
				used |= c
				out.Leases[i].Prefix = q
			}
		}
	}
	return out
}

// P1.6: a pool with more than MaxSet free parts can still be leased.
func TestLargePool(t *testing.T) {
	one := func(i int) api.Prefix { return api.Prefix{Addr: six(uint64(i)<<56, 0), Bits: 128} }
	p := api.Pool{Prefix: net("::/0"), Kept: repeat(api.MaxLeases, one)}
	is(t, "Free", all(addr.Free(p)), all(nets(""), api.ErrLarge))
	_, q, e := addr.Take(p, "a", 8)
	is(t, "Take", all(q, e), all(net("c800::/8"), api.OK))
	_, q, e = addr.Best(p, "a", 20)
	is(t, "Best", all(q, e), all(net("0:1000::/20"), api.OK))
	for _, key := range keys(api.MaxLeases) {
		p, _, e = addr.Take(p, key, 20)
		is(t, "Take", e, api.OK)
	}
	packed, e := addr.Pack(p)
	is(t, "Pack", all(addr.CheckPool(packed), len(packed.Leases), e), all(api.OK, api.MaxLeases, api.OK))
}
