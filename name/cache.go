package name

import (
	"cmp"
	"maps"
	"slices"

	"holloway/api"
	"holloway/checks"
)

// Cache keeps what was found.
type Cache struct {
	most    int
	now     int // the moment of the last call
	uses    int // how often something was used
	entries map[api.Question]*entry
}

// An entry is what was found for a name and a kind.
type entry struct {
	records []api.Record
	put     int // the moment
	until   int // it lasts before this
	used    int // which one of the uses was its last one
}

// New is an empty cache.
func New(most int) (*Cache, api.Errno) {
	if e := checks.Number(most, 1, api.MaxEntries); e != api.OK {
		return nil, e
	}
	return &Cache{most: most, entries: map[api.Question]*entry{}}, api.OK
}

// advance makes it a moment: entries that do not last any more are forgotten.
func (c *Cache) advance(at int) {
	c.now = at
	maps.DeleteFunc(c.entries, func(_ api.Question, x *entry) bool { return x.until <= at })
}

// use notes that an entry is used.
func (c *Cache) use(x *entry) {
	c.uses++
	x.used = c.uses
}

// forget takes out the entry whose last use was the earliest one.
func (c *Cache) forget() {
	first := c.uses
	for _, x := range c.entries {
		first = min(first, x.used)
	}
	maps.DeleteFunc(c.entries, func(_ api.Question, x *entry) bool { return x.used == first })
}

// checkUse is what is wrong with a moment, a name and a kind.
func (c *Cache) checkUse(at int, name string, kind int) api.Errno {
	return cmp.Or(checks.Onward(at, c.now), CheckDomain(name), checkKind(kind))
}

// shortest is the least one of a life and the Lives of records.
func shortest(life int, l []api.Record) int {
	for _, r := range l {
		life = min(life, r.Life)
	}
	return life
}

// Put keeps what was found.
func (c *Cache) Put(at int, name string, kind int, l []api.Record, life int) api.Errno {
	if e := cmp.Or(c.checkUse(at, name, kind), checks.Each(l, api.MaxGot, checkRecord), checkLife(life)); e != api.OK {
		return e
	}
	c.advance(at)
	q := api.Question{Name: name, Kind: kind}
	x := &entry{records: slices.Clone(l), put: at, until: at + shortest(life, l)}
	if x.until == at {
		delete(c.entries, q)
		return api.OK
	}
	c.use(x)
	c.entries[q] = x
	if len(c.entries) > c.most {
		c.forget()
	}
	return api.OK
}

// Get is what is kept.
func (c *Cache) Get(at int, name string, kind int) ([]api.Record, bool, api.Errno) {
	if e := c.checkUse(at, name, kind); e != api.OK {
		return nil, false, e
	}
	c.advance(at)
	x := c.entries[api.Question{Name: name, Kind: kind}]
	if x == nil {
		return nil, false, api.OK
	}
	c.use(x)
	out := slices.Clone(x.records)
	for i := range out {
		out[i].Life -= at - x.put
	}
	return out, true, api.OK
}

// Drop takes out all entries of names under a zone.
func (c *Cache) Drop(at int, zone string) (int, api.Errno) {
	if e := cmp.Or(checks.Onward(at, c.now), CheckDomain(zone)); e != api.OK {
		return 0, e
	}
	c.advance(at)
	before := len(c.entries)
	maps.DeleteFunc(c.entries, func(q api.Question, _ *entry) bool { return isUnder(q.Name, zone) })
	return before - len(c.entries), api.OK
}

// Many is how many entries last.
func (c *Cache) Many(at int) (int, api.Errno) {
	if e := checks.Onward(at, c.now); e != api.OK {
		return 0, e
	}
	c.advance(at)
	return len(c.entries), api.OK
}
