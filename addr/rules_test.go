package addr_test

import (
	"fmt"
	"math"
	"math/rand"
	"reflect"
	"slices"
	"strings"
	"sync"
	"testing"

	"holloway/addr"
	"holloway/api"
)

// input has an argument of each type, of some two.
type input struct {
	a     api.Addr
	p, q  api.Prefix
	n     int
	s     string
	r     api.Range
	l, m  []api.Prefix
	x, y  []api.Entry
	lent  api.Pool
	owner string
}

// call is one of the functions of package addr, with all its results.
type call struct {
	name string
	f    func(in input) []any
}

var calls = []call{
	{"CheckAddr", func(in input) []any { return all(addr.CheckAddr(in.a)) }},
	{"Text", func(in input) []any { return all(addr.Text(in.a)) }},
	{"Parse", func(in input) []any { return all(addr.Parse(in.s)) }},
	{"Loose", func(in input) []any { return all(addr.Loose(in.s)) }},
	{"CheckPrefix", func(in input) []any { return all(addr.CheckPrefix(in.p)) }},
	{"Mask", func(in input) []any { return all(addr.Mask(in.a, in.n)) }},
	{"Last", func(in input) []any { return all(addr.Last(in.p)) }},
	{"Contains", func(in input) []any { return all(addr.Contains(in.p, in.a)) }},
	{"Inside", func(in input) []any { return all(addr.Inside(in.p, in.q)) }},
	{"Common", func(in input) []any { return all(addr.Common(in.p, in.q)) }},
	{"PrefixText", func(in input) []any { return all(addr.PrefixText(in.p)) }},
	{"ParsePrefix", func(in input) []any { return all(addr.ParsePrefix(in.s)) }},
	{"Span", func(in input) []any { return all(addr.Span(in.r)) }},
	{"Least", func(in input) []any { return all(addr.Least(in.l)) }},
	{"CheckSet", func(in input) []any { return all(addr.CheckSet(in.l)) }},
	{"Ranges", func(in input) []any { return all(addr.Ranges(in.l)) }},
	{"Union", func(in input) []any { return all(addr.Union(in.l, in.m)) }},
	{"Both", func(in input) []any { return all(addr.Both(in.l, in.m)) }},
	{"Without", func(in input) []any { return all(addr.Without(in.l, in.m)) }},
	{"Rest", func(in input) []any { return all(addr.Rest(in.l)) }},
	{"Has", func(in input) []any { return all(addr.Has(in.l, in.a)) }},
	{"Covers", func(in input) []any { return all(addr.Covers(in.l, in.m)) }},
	{"Size", func(in input) []any { return all(addr.Size(in.l)) }},
	{"SetText", func(in input) []any { return all(addr.SetText(in.l)) }},
	{"ReadSet", func(in input) []any { return all(addr.ReadSet(in.s)) }},
	{"CheckTable", func(in input) []any { return all(addr.CheckTable(in.x)) }},
	{"Lookup", func(in input) []any { return all(addr.Lookup(in.x, in.a)) }},
	{"Squeeze", func(in input) []any { return all(addr.Squeeze(in.x)) }},
	{"Differ", func(in input) []any { return all(addr.Differ(in.x, in.y)) }},
	{"CheckPool", func(in input) []any { return all(addr.CheckPool(in.lent)) }},
	{"Free", func(in input) []any { return all(addr.Free(in.lent)) }},
	{"Take", func(in input) []any { return all(addr.Take(in.lent, in.owner, in.n)) }},
	{"Best", func(in input) []any { return all(addr.Best(in.lent, in.owner, in.n)) }},
	{"Pick", func(in input) []any { return all(addr.Pick(in.lent, in.owner)) }},
	{"Pack", func(in input) []any { return all(addr.Pack(in.lent)) }},
	{"Via", func(in input) []any { return all(addr.Via(in.n, in.p)) }},
	{"Site", func(in input) []any { return all(addr.Site(in.p)) }},
}

// chance makes inputs: with wild they are often wrong, otherwise mostly right.
type chance struct {
	*rand.Rand
	wild bool
}

func (r chance) odd() bool { return r.wild && r.Intn(12) == 0 }

func (r chance) addr() api.Addr {
	a := withGroups(r.Rand)
	if r.Intn(3) > 0 {
		a = api.Addr{Lo: uint64(10<<24 | r.Intn(256))}
	}
	if r.odd() {
		a.Six = !a.Six
	}
	return a
}

func (r chance) bits() int {
	if r.odd() {
		return []int{-1, 33, 129, math.MinInt, math.MaxInt, math.MinInt32, 1 << 32}[r.Intn(7)]
	}
	return 24 + r.Intn(9)
}

func (r chance) prefix() api.Prefix {
	p := api.Prefix{Addr: r.addr(), Bits: r.bits()}
	if q, e := addr.Mask(p.Addr, p.Bits); e == api.OK && !r.odd() {
		return q
	}
	return p
}

func (r chance) key() string {
	if r.odd() {
		return notKeys[r.Intn(len(notKeys))]
	}
	return keys(30)[r.Intn(30)]
}

// set is a list of prefixes, with memory behind its length.
func (r chance) set() []api.Prefix {
	l := repeat(r.Intn(8), func(int) api.Prefix { return r.prefix() })
	if s, e := addr.Least(l); e == api.OK && !r.odd() {
		l = s
	}
	return append(l, r.prefix(), api.Prefix{Bits: -5})[:len(l)]
}

func (r chance) table() []api.Entry {
	var out []api.Entry
	for _, p := range r.set() {
		out = append(out, api.Entry{Prefix: p, To: r.key()})
		if r.Intn(2) == 0 {
			p.Bits += r.Intn(3)
			out = append(out, api.Entry{Prefix: p, To: out[len(out)-1].To})
		}
	}
	return append(out, api.Entry{To: "-"}, api.Entry{To: "z"})[:len(out)]
}

func (r chance) pool() api.Pool {
	p := api.Pool{Prefix: net("10.0.0.0/24")}
	if r.odd() {
		p.Prefix = r.prefix()
	}
	for _, q := range r.set() {
		if r.Intn(3) == 0 && (!q.Addr.Six || r.odd()) {
			p.Kept = append(p.Kept, q)
		} else if !q.Addr.Six || r.odd() {
			p.Leases = append(p.Leases, api.Lease{Key: r.key(), Prefix: q})
		}
	}
	if !r.odd() {
		slices.SortFunc(p.Leases, func(x, y api.Lease) int { return strings.Compare(x.Key, y.Key) })
		p.Leases = slices.CompactFunc(p.Leases, func(x, y api.Lease) bool { return x.Key == y.Key })
	}
	p.Kept = append(p.Kept, r.prefix(), api.Prefix{Bits: -5})[:len(p.Kept)]
	p.Leases = append(p.Leases, api.Lease{Key: "-"}, api.Lease{Key: "zz"})[:len(p.Leases)]
	return p
}

func (r chance) text() string {
	s, _ := addr.SetText(r.set())
	switch r.Intn(4) {
	case 0:
		s, _ = addr.Text(r.addr())
	case 1:
		s, _ = addr.PrefixText(r.prefix())
	}
	b := []byte(s)
	for len(b) > 0 && r.odd() {
		b[r.Intn(len(b))] = byte(r.Intn(256))
	}
	return string(b)
}

func (r chance) input() input {
	in := input{a: r.addr(), p: r.prefix(), q: r.prefix(), n: r.bits(), s: r.text(), r: api.Range{First: r.addr(), Last: r.addr()}, l: r.set(), m: r.set(), x: r.table(), y: r.table(), lent: r.pool(), owner: r.key()}
	if r.Intn(3) == 0 {
		in.p = in.q
	}
	if r.Intn(3) == 0 {
		in.p, _ = addr.Via(r.Intn(3), in.q)
	}
	return in
}

// inputs are random inputs, right and wrong.
func inputs(n int) []input {
	r := chance{Rand: rand.New(rand.NewSource(10))}
	return repeat(n, func(i int) input {
		r.wild = i%2 == 0
		return r.input()
	})
}

func errnoOf(results []any) api.Errno { return results[len(results)-1].(api.Errno) }

// whole is an input with what lies behind the lengths of its lists.
func whole(in input) string {
	return fmt.Sprintf("%+v %v %v %v %v %v %v", in, in.l[:cap(in.l)], in.m[:cap(in.m)], in.x[:cap(in.x)], in.y[:cap(in.y)], in.lent.Kept[:cap(in.lent.Kept)], in.lent.Leases[:cap(in.lent.Leases)])
}

// alone says whether results beside an error are zero; the number of a line need not be.
func alone(name string, results []any) bool {
	for i, x := range results {
		v := reflect.ValueOf(x)
		if v.IsZero() || v.Kind() == reflect.Slice && v.Len() == 0 || name == "ReadSet" && i == 1 {
			continue
		}
		return false
	}
	return true
}

// Z1, Z3: every call returns, without a panic; with an error all else is zero. The inputs lead to both, for each function.
func TestErrorsComeAlone(t *testing.T) {
	count := map[string][2]int{}
	for _, in := range inputs(3_000) {
		for _, c := range calls {
			results := c.f(in)
			n := count[c.name]
			if errnoOf(results) == api.OK {
				n[0]++
			} else {
				n[1]++
				if !alone(c.name, results[:len(results)-1]) {
					t.Errorf("%s: %+v with an error: %+v", c.name, in, results)
				}
			}
			count[c.name] = n
		}
	}
	for _, c := range calls {
		if n := count[c.name]; n[0] < 20 || n[1] < 20 {
			t.Errorf("%s: %d right ones, %d errors", c.name, n[0], n[1])
		}
	}
}

// Z1: long arguments are no matter.
func TestLongArguments(t *testing.T) {
	const n = 200_000
	in := input{s: strings.Repeat("1.2.3.4/32\n", n/11), owner: strings.Repeat("a", n)}
	in.l, in.m = apart(n), apart(n)
	in.x, in.y = rows(n), rows(n)
	in.lent = api.Pool{Kept: in.l, Leases: make([]api.Lease, n)}
	for _, c := range calls {
		if e := errnoOf(c.f(in)); long(c.name) && e != api.ErrLarge {
			t.Errorf("%s: %v", c.name, e)
		}
	}
}

// long says whether a function has an argument that can be too long.
func long(name string) bool {
	return slices.Contains(strings.Fields("Least CheckSet Ranges Union Both Without Rest Has Covers Size SetText ReadSet CheckTable Lookup Squeeze Differ CheckPool Free Take Best Pick Pack"), name)
}

// scribble overwrites all lists of a value.
func scribble(v reflect.Value) {
	switch v.Kind() {
	case reflect.Slice:
		v = v.Slice(0, v.Cap())
		for i := range v.Len() {
			scribble(v.Index(i))
			v.Index(i).SetZero()
		}
	case reflect.Struct:
		for i := range v.NumField() {
			scribble(v.Field(i))
		}
	}
}

// Z2, Z7: arguments are not modified, also behind their lengths; results share no memory with them, and come again.
func TestArgumentsStay(t *testing.T) {
	for _, in := range inputs(400) {
		before := whole(in)
		for _, c := range calls {
			first := c.f(in)
			text := fmt.Sprintf("%+v", first)
			again := c.f(in)
			if after := whole(in); after != before {
				t.Fatalf("%s: %s became %s", c.name, before, after)
			}
			for _, x := range first {
				scribble(reflect.ValueOf(x))
			}
			if after := whole(in); after != before {
				t.Fatalf("%s: %s became %s when its results were changed", c.name, before, after)
			}
			if s := fmt.Sprintf("%+v", again); s != text {
				t.Fatalf("%s: %s, then %s", c.name, text, s)
			}
			if s := fmt.Sprintf("%+v", c.f(in)); s != text {
				t.Fatalf("%s: %s, then %s", c.name, text, s)
			}
		}
	}
}

// bare is an input with lists that have nothing behind their lengths.
func bare(in input) input {
	in.l, in.m, in.x, in.y = slices.Clip(slices.Clone(in.l)), slices.Clip(slices.Clone(in.m)), slices.Clip(slices.Clone(in.x)), slices.Clip(slices.Clone(in.y))
	in.lent.Kept, in.lent.Leases = slices.Clip(slices.Clone(in.lent.Kept)), slices.Clip(slices.Clone(in.lent.Leases))
	return in
}

// Z2: what is behind the length of a list is not looked at.
func TestMemoryBehindLists(t *testing.T) {
	for _, in := range inputs(1_000) {
		for _, c := range calls {
			is(t, c.name, c.f(in), c.f(bare(in)))
		}
	}
}

// Z1: functions can be called by several goroutines at once.
func TestAtOnce(t *testing.T) {
	list := inputs(100)
	results := func() []string {
		var out []string
		for _, in := range list {
			for _, c := range calls {
				out = append(out, fmt.Sprintf("%+v", c.f(in)))
			}
		}
		return out
	}
	want := results()
	var wait sync.WaitGroup
	for range 8 {
		wait.Go(func() {
			if !slices.Equal(results(), want) {
				t.Error("results differ")
			}
		})
	}
	wait.Wait()
}

// Z5: empty lists are as nil.
func TestEmptyLists(t *testing.T) {
	for _, in := range inputs(200) {
		in.l, in.m, in.x, in.y, in.lent.Kept, in.lent.Leases = nil, nil, nil, nil, nil, nil
		void := in
		void.l, void.m, void.x, void.y, void.lent.Kept, void.lent.Leases = []api.Prefix{}, []api.Prefix{}, []api.Entry{}, []api.Entry{}, []api.Prefix{}, []api.Lease{}
		for _, c := range calls {
			is(t, c.name, c.f(void), c.f(in))
		}
	}
}

// Z6: no int overflows.
func TestAllInts(t *testing.T) {
	good := pool("10.0.0.0/8", "", "")
	for _, n := range []int{math.MinInt, math.MinInt + 20, -1 << 32, -1, 129, 1 << 32, 1<<32 + 24, math.MaxInt - 96, math.MaxInt - 20, math.MaxInt} {
		p := api.Prefix{Bits: n}
		is(t, "Mask", all(addr.Mask(api.Addr{}, n)), all(api.Prefix{}, api.ErrArg))
		is(t, "CheckPrefix", addr.CheckPrefix(p), api.ErrArg)
		is(t, "CheckPrefix", addr.CheckPrefix(api.Prefix{Addr: six(0, 0), Bits: n}), api.ErrArg)
		is(t, "CheckPool", addr.CheckPool(api.Pool{Prefix: p}), api.ErrArg)
		is(t, "CheckPool", addr.CheckPool(api.Pool{Prefix: good.Prefix, Leases: []api.Lease{{Key: "a", Prefix: p}}}), api.ErrArg)
		is(t, "Take", all(addr.Take(good, "a", n)), all(api.Pool{}, api.Prefix{}, api.ErrArg))
		is(t, "Best", all(addr.Best(good, "a", n)), all(api.Pool{}, api.Prefix{}, api.ErrArg))
		is(t, "Site", all(addr.Site(p)), all(0, api.Prefix{}, api.ErrArg))
		if n != 129 {
			is(t, "Via", all(addr.Via(n, net("10.0.0.0/8"))), all(api.Prefix{}, api.ErrArg))
		}
	}
}

// rightAddrs says whether all addresses in a value are right.
func rightAddrs(v reflect.Value) bool {
	if a, ok := v.Interface().(api.Addr); ok {
		return addr.CheckAddr(a) == api.OK
	}
	switch v.Kind() {
	case reflect.Slice:
		for i := range v.Len() {
			if !rightAddrs(v.Index(i)) {
				return false
			}
		}
	case reflect.Struct:
		for i := range v.NumField() {
			if !rightAddrs(v.Field(i)) {
				return false
			}
		}
	}
	return true
}

// Z8: addresses that are not Six have no Hi; what functions return is right.
func TestResultsAreRight(t *testing.T) {
	for _, in := range inputs(2_000) {
		for _, c := range calls {
			for _, x := range c.f(in) {
				if !rightAddrs(reflect.ValueOf(x)) {
					t.Fatalf("%s: %+v", c.name, x)
				}
				switch y := x.(type) {
				case api.Prefix:
					is(t, c.name, addr.CheckPrefix(y), api.OK)
				case []api.Prefix:
					is(t, c.name, addr.CheckSet(y), api.OK)
				case []api.Entry:
					is(t, c.name, addr.CheckTable(y), api.OK)
				case api.Pool:
					is(t, c.name, addr.CheckPool(y), api.OK)
				}
			}
		}
	}
}

// Z9: strings are compared byte by byte.
func TestOrderOfKeys(t *testing.T) {
	rising := []string{"a", "a-", "a0", "a00", "a1", "a10", "a9", "a_", "aa", "b", "b-", "z"}
	for i := range rising {
		for k := range rising {
			want := api.OK
			if i >= k {
				want = api.ErrOrder
			}
			is(t, "CheckPool", addr.CheckPool(pool("10.0.0.0/24", "", "10.0.0.0/32="+rising[i]+" 10.0.0.1/32="+rising[k])), want)
		}
	}
	p := pool("10.0.0.0/24", "", "")
	for _, key := range []string{"aa", "z", "a9", "a", "a_", "a10", "a-", "b", "a00", "b-", "a0", "a1"} {
		p, _, _ = addr.Take(p, key, 32)
	}
	for i, l := range p.Leases {
		is(t, "Take", l.Key, rising[i])
	}
}

// Z10: what is written is read to an equal value, and nothing else is read.
func TestWritersAndReaders(t *testing.T) {
	r := chance{Rand: rand.New(rand.NewSource(11))}
	signs := []byte("0123456789abcdef:./\n -A")
	read, other := 0, 0
	for range 20_000 {
		s := r.text()
		if b := []byte(s); len(b) > 0 && r.Intn(2) == 0 {
			b[r.Intn(len(b))] = signs[r.Intn(len(signs))]
			s = string(b)
		}
		if a, e := addr.Parse(s); e == api.OK {
			is(t, "Text", all(addr.Text(a)), all(s, api.OK))
			read++
		}
		if p, e := addr.ParsePrefix(s); e == api.OK {
			is(t, "PrefixText", all(addr.PrefixText(p)), all(s, api.OK))
			read++
		}
		if l, _, e := addr.ReadSet(s); e == api.OK {
			is(t, "SetText", all(addr.SetText(l)), all(s, api.OK))
			read++
		} else {
			other++
		}
		l := r.set()
		text, _ := addr.SetText(l)
		is(t, "ReadSet", all(addr.ReadSet(text)), all(l, 0, api.OK))
	}
	if read < 5_000 || other < 5_000 {
		t.Errorf("%d are read, %d are not", read, other)
	}
}
