package name_test

import (
	"fmt"
	"math"
	"slices"
	"strings"
	"testing"

	"holloway/api"
	"holloway/name"
)

// P6.8
func TestNew(t *testing.T) {
	for most, want := range map[int]api.Errno{1: api.OK, 2: api.OK, api.MaxEntries: api.OK, 0: api.ErrArg, -1: api.ErrArg, api.MaxEntries + 1: api.ErrArg, math.MinInt: api.ErrArg, math.MaxInt: api.ErrArg} {
		c, e := name.New(most)
		is(t, fmt.Sprint(most), all(c != nil, e), all(want == api.OK, want))
	}
}

// A shelf is a cache in a test, with answers for RecordA.
type shelf struct {
	*testing.T
	c *name.Cache
}

func newShelf(t *testing.T, most int) shelf {
	t.Helper()
	c, e := name.New(most)
	is(t, "New", e, api.OK)
	return shelf{t, c}
}

// put puts a record with a life under a name.
func (s shelf) put(at int, n string, life int) {
	s.Helper()
	is(s.T, fmt.Sprint("Put at ", at), s.c.Put(at, n, api.RecordA, shelved(n, life), api.MaxLife), api.OK)
}

// shelved is what is put under a name.
func shelved(n string, life int) []api.Record {
	return []api.Record{{Name: n, Kind: api.RecordA, Life: life}}
}

// get looks at what is there under a name, by its life (0: nothing).
func (s shelf) get(at int, n string, life int) {
	s.Helper()
	want := shelved(n, life)[:min(life, 1)]
	is(s.T, fmt.Sprint("Get of ", n, " at ", at), all(s.c.Get(at, n, api.RecordA)), all(want, life > 0, api.OK))
}

func (s shelf) drop(at int, zone string, want int) {
	s.Helper()
	is(s.T, fmt.Sprint("Drop at ", at), all(s.c.Drop(at, zone)), all(want, api.OK))
}

func (s shelf) many(at, want int) {
	s.Helper()
	is(s.T, fmt.Sprint("Many at ", at), all(s.c.Many(at)), all(want, api.OK))
}

// P6.8
func TestPut(t *testing.T) {
	s := newShelf(t, 9)
	s.many(0, 0)
	s.get(0, "a", 0)
	s.put(0, "a", 10)
	s.get(0, "a", 10)
	s.get(4, "a", 6)
	s.get(4, "b", 0)
	s.get(9, "a", 1)
	s.many(9, 1)
	s.get(10, "a", 0)
	s.many(10, 0)
	// What is put last counts, also if it is for a shorter time, or for none.
	s.put(10, "a", 50)
	s.put(11, "a", 3)
	s.get(13, "a", 1)
	s.get(14, "a", 0)
	s.put(20, "a", 50)
	s.put(20, "b", 50)
	s.put(21, "a", 0)
	s.get(21, "a", 0)
	s.get(21, "b", 49)
	s.many(21, 1)
	// A record lasts beyond the last moment, and for the longest time.
	s.put(api.End-1, "a", api.MaxLife)
	s.get(api.End-1, "a", api.MaxLife)
	s = newShelf(t, 9)
	s.put(7, "a", api.MaxLife)
	s.get(api.MaxLife+6, "a", 1)
	s.get(api.MaxLife+7, "a", 0)
}

// P6.8
func TestPutLists(t *testing.T) {
	c := newShelf(t, 9).c
	l := records("a alias 20 b; *.q words 15 w; b a 30 0.0.0.1")
	get := func(at int, n string, kind int, want string, is4 bool) {
		t.Helper()
		is(t, fmt.Sprint(n, kind, at), all(c.Get(at, n, kind)), all(records(want), is4, api.OK))
	}
	// For as long as all of the records, each one with a life of its own.
	is(t, "Put", c.Put(5, "a", api.RecordA, l, 40), api.OK)
	get(7, "a", api.RecordA, "a alias 18 b; *.q words 13 w; b a 28 0.0.0.1", true)
	get(7, "a", api.RecordAAAA, "", false)
	get(7, "b", api.RecordA, "", false)
	get(19, "a", api.RecordA, "a alias 6 b; *.q words 1 w; b a 16 0.0.0.1", true)
	get(20, "a", api.RecordA, "", false)
	// For life, if this is less.
	is(t, "Put", c.Put(30, "a", api.RecordA, l, 3), api.OK)
	get(32, "a", api.RecordA, "a alias 18 b; *.q words 13 w; b a 28 0.0.0.1", true)
	get(33, "a", api.RecordA, "", false)
	// That nothing was found, for each kind by itself.
	for i, kind := range kinds {
		is(t, "Put", c.Put(40, "a", kind, nil, 5+i), api.OK)
	}
	for i, kind := range kinds {
		get(44+i, "a", kind, "", true)
		get(45+i, "a", kind, "", false)
	}
	// With life 0 nothing is kept, and an older entry is taken out; also by a record with life 0.
	is(t, "Put", c.Put(60, "a", api.RecordA, l, 9), api.OK)
	is(t, "Put", c.Put(60, "a", api.RecordWords, l, 9), api.OK)
	is(t, "Put", c.Put(60, "b", api.RecordA, l, 9), api.OK)
	is(t, "Put", c.Put(61, "a", api.RecordA, l, 0), api.OK)
	is(t, "Put", c.Put(61, "b", api.RecordA, records("a a 9 0.0.0.1; a a 0 0.0.0.2"), 9), api.OK)
	get(61, "a", api.RecordA, "", false)
	get(61, "b", api.RecordA, "", false)
	get(61, "a", api.RecordWords, "a alias 19 b; *.q words 14 w; b a 29 0.0.0.1", true)
}

// P6.8: which entry is taken out.
func TestMost(t *testing.T) {
	s := newShelf(t, 2)
	s.put(0, "a", 100)
	s.put(0, "b", 100)
	s.put(1, "c", 100)
	s.many(1, 2)
	s.get(1, "a", 0)
	// A use is a Get that finds it,
	s.get(2, "b", 98)
	s.put(3, "d", 100)
	s.get(3, "c", 0)
	s.get(3, "b", 97)
	// or a Put of the same name,
	s.put(4, "d", 100)
	s.put(4, "b", 90)
	s.put(5, "e", 100)
	s.get(5, "d", 0)
	s.get(5, "b", 89)
	// not Many, nor Drop, nor a Get of another kind, or with an error.
	s.many(6, 2)
	s.drop(6, "q", 0)
	is(t, "another kind", all(s.c.Get(6, "e", api.RecordAAAA)), all([]api.Record{}, false, api.OK))
	is(t, "an error", all(s.c.Get(5, "e", api.RecordA)), all([]api.Record{}, false, api.ErrOrder))
	s.put(7, "f", 100)
	s.get(7, "e", 0)
	s.get(7, "b", 87)
	// One that does not last any more makes room.
	s.put(8, "f", 1)
	s.get(8, "b", 86)
	s.put(9, "g", 100)
	s.get(9, "b", 85)
	s.get(9, "g", 100)
	// A Put of nothing makes none.
	s.put(9, "h", 0)
	s.get(9, "b", 85)
	s.get(9, "g", 100)
	s = newShelf(t, 1)
	s.put(0, "a", 5)
	s.put(0, "b", 5)
	s.get(0, "a", 0)
	s.get(0, "b", 5)
	s = newShelf(t, api.MaxEntries)
	for i := range api.MaxEntries + 1 {
		s.put(i, key(i), 10_000)
	}
	s.many(api.MaxEntries, api.MaxEntries)
	s.get(api.MaxEntries, key(0), 0)
	s.get(api.MaxEntries, key(1), 10_001-api.MaxEntries)
}

// P6.8
func TestDrop(t *testing.T) {
	s := newShelf(t, 20)
	for i, n := range words("x a.x b.a.x ax x.y a.y") {
		s.put(i, n, 10+i)
	}
	s.drop(6, "q", 0)
	s.drop(6, "y.x", 0)
	s.drop(7, "a.x", 2)
	s.get(7, "b.a.x", 0)
	s.get(7, "a.x", 0)
	s.get(7, "x", 3)
	s.drop(7, "a.x", 0)
	// What does not last any more does not count.
	s.put(7, "b.x", 100)
	s.drop(10, "x", 1)
	s.many(10, 3)
	s.drop(10, "y", 2)
	s.drop(10, "ax", 1)
	s.many(10, 0)
	// All kinds of a name.
	for _, kind := range kinds {
		is(t, "Put", s.c.Put(20, "a.b", kind, nil, 5), api.OK)
	}
	s.drop(20, "b", len(kinds))
	s.many(20, 0)
}

// P6.8, Z3, Z4, Z6
func TestCacheErrors(t *testing.T) {
	s := newShelf(t, 2)
	s.put(7, "a", 100)
	s.put(7, "b", 100)
	type putting struct {
		at   int
		name string
		kind int
		l    []api.Record
		life int
	}
	put := func(x putting) api.Errno { return s.c.Put(x.at, x.name, x.kind, x.l, x.life) }
	get := func(x putting) api.Errno { _, _, e := s.c.Get(x.at, x.name, x.kind); return e }
	drop := func(x putting) api.Errno { _, e := s.c.Drop(x.at, x.name); return e }
	many := func(x putting) api.Errno { _, e := s.c.Many(x.at); return e }
	wrong := putting{-1, "A", 2, make([]api.Record, api.MaxGot+1), -1}
	steps := []step[putting]{
		{api.ErrArg, func(x *putting) { x.at = math.MinInt }},
		{api.ErrArg, func(x *putting) { x.at = math.MaxInt }},
		{api.ErrArg, func(x *putting) { x.at = api.End }},
		{api.ErrArg, func(x *putting) { x.at = 6 }},
		{api.ErrOrder, func(x *putting) { x.at = 7 }},
		{api.ErrName, func(x *putting) { x.name = tooLong }},
		{api.ErrLarge, func(x *putting) { x.name = "*.a" }},
		{api.ErrName, func(x *putting) { x.name = "b" }},
		{api.ErrKind, func(x *putting) { x.kind = api.RecordA }},
		{api.ErrLarge, func(x *putting) { x.l = records("a a 5 0.0.0.0; a a -1 0.0.0.0; A a 5 0.0.0.0") }},
		{api.ErrArg, func(x *putting) { x.l = records("a a 5 0.0.0.0; A a -1 0.0.0.0; a a -1 0.0.0.0") }},
		{api.ErrName, func(x *putting) { x.l = records("a a 5 0.0.0.0; a a 1000000 0.0.0.0") }},
		{api.ErrArg, func(x *putting) { x.life = math.MinInt }},
		{api.ErrArg, func(x *putting) { x.life = math.MaxInt }},
		{api.ErrArg, func(x *putting) { x.life = api.MaxLife + 1 }},
		{api.ErrArg, func(x *putting) { x.life = api.MaxLife }},
	}
	// Each one of them without an error changes nothing but the moment, and those with one do not even change this.
	ladder(t, "Get", wrong, get, steps[:9]...)
	ladder(t, "Drop", putting{at: -1, name: "A"}, drop, append(slices.Clone(steps[:7]), step[putting]{api.ErrName, func(x *putting) { x.name = "q" }})...)
	ladder(t, "Many", wrong, many, steps[:5]...)
	s.get(7, "a", 100)
	s.get(7, "b", 100)
	ladder(t, "Put", wrong, put, steps...)
	is(t, "Get", all(s.c.Get(7, "b", api.RecordA)), all(records("a a 5 0.0.0.0; a a 1000000 0.0.0.0"), true, api.OK))
	s.get(7, "a", 100)
	// A later call that is wrong is no earlier call.
	for _, f := range []func(x putting) api.Errno{put, get, drop} {
		is(t, "later", f(putting{50, "A", 2, nil, 0}), api.ErrName)
	}
	is(t, "later", put(putting{50, "a", api.RecordA, nil, -1}), api.ErrArg)
	s.get(8, "a", 99)
	full := repeat(api.MaxGot, func(i int) api.Record {
		return api.Record{Name: key(i), Kind: api.RecordWords, Words: strings.Repeat("w", 200), Life: 9}
	})
	is(t, "full", put(putting{8, "c", api.RecordWords, full, 9}), api.OK)
	is(t, "full", all(s.c.Get(8, "c", api.RecordWords)), all(full, true, api.OK))
}

// P6.8, Z2: what is put is not kept, and what is got is not given out again.
func TestCacheMemory(t *testing.T) {
	c := newShelf(t, 2).c
	l := records("a a 9 0.0.0.1; a a 8 0.0.0.2")
	want := slices.Clone(l)
	is(t, "Put", c.Put(0, "a", api.RecordA, l, 9), api.OK)
	l[0] = api.Record{}
	for range 2 {
		got, _, _ := c.Get(0, "a", api.RecordA)
		is(t, "Get", got, want)
		clear(got)
	}
}

// A kept entry is one of a second telling of Cache: all that was ever put is in a list.
type kept struct {
	name    string
	kind    int
	l       []api.Record
	put     int
	long    int
	lastUse int
}

type keeper struct {
	most, at, uses int
	l              []*kept
}

func (k *keeper) lasts(x *kept) bool { return k.at-x.put < x.long }

// lasting are the entries that last.
func (k *keeper) lasting() []*kept {
	return slices.DeleteFunc(slices.Clone(k.l), func(x *kept) bool { return !k.lasts(x) })
}

func (k *keeper) use(x *kept) {
	k.uses++
	x.lastUse = k.uses
}

// out takes those out that are to go.
func (k *keeper) out(goes func(x *kept) bool) { k.l = slices.DeleteFunc(k.l, goes) }

func (k *keeper) doPut(n string, kind int, l []api.Record, life int) {
	for _, r := range l {
		life = min(life, r.Life)
	}
	k.out(func(x *kept) bool { return x.name == n && x.kind == kind })
	if life == 0 {
		return
	}
	x := &kept{name: n, kind: kind, l: slices.Clone(l), put: k.at, long: life}
	k.use(x)
	k.l = append(k.l, x)
	if last := k.lasting(); len(last) > k.most {
		first := slices.MinFunc(last, func(x, y *kept) int { return x.lastUse - y.lastUse })
		k.out(func(x *kept) bool { return x == first })
	}
}

func (k *keeper) doGet(n string, kind int) ([]api.Record, bool) {
	for _, x := range k.lasting() {
		if x.name == n && x.kind == kind {
			k.use(x)
			out := slices.Clone(x.l)
			for i := range out {
				out[i].Life = x.l[i].Life - (k.at - x.put)
			}
			return out, true
		}
	}
	return nil, false
}

func (k *keeper) doDrop(zone string) int {
	n := len(k.lasting())
	k.out(func(x *kept) bool { return x.name == zone || strings.HasSuffix(x.name, "."+zone) })
	return n - len(k.lasting())
}

// P6.8: what Get returns is what was put last, but for its life.
func TestCacheAgain(t *testing.T) {
	r := newChance(9)
	got, dropped := 0, 0
	for range 500 {
		k := &keeper{most: 1 + r.Intn(4)}
		c := newShelf(t, k.most).c
		for range 60 {
			k.at += max(0, r.Intn(6)-3)
			n, kind := pick(r, words("a b.a c ca d.c")), pick(r, kinds[:2])
			switch r.Intn(12) {
			case 0:
				want := k.doDrop(n)
				is(t, "Drop", all(c.Drop(k.at, n)), all(want, api.OK))
				dropped += want
			case 1:
				is(t, "Many", all(c.Many(k.at)), all(len(k.lasting()), api.OK))
			case 2:
				is(t, "a wrong Put", c.Put(k.at+5, n, kind, nil, -1), api.ErrArg)
			case 3, 4, 5, 6:
				l, life := repeat(r.Intn(3), func(int) api.Record { return r.record(n) }), r.Intn(30)
				for i := range l {
					l[i].Life += r.Intn(20)
				}
				k.doPut(n, kind, l, life)
				is(t, "Put", c.Put(k.at, n, kind, l, life), api.OK)
			default:
				want, has := k.doGet(n, kind)
				is(t, "Get", all(c.Get(k.at, n, kind)), all(want, has, api.OK))
				if has {
					got++
				}
			}
		}
	}
	if got < 1_000 || dropped < 200 {
		t.Errorf("%d found, %d dropped", got, dropped)
	}
}
