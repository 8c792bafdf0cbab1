package name_test

import (
	"fmt"
	"slices"
	"strings"
	"testing"

	"holloway/api"
	"holloway/name"
)

// A question is a name and a kind, and what is found: records, or an error.
type question struct {
	name string
	kind int
	want string
	e    api.Errno
}

// found asks all questions of a zone.
func found(t *testing.T, z api.Zone, questions []question) {
	t.Helper()
	is(t, "the zone", name.CheckZone(z), api.OK)
	for _, q := range questions {
		is(t, fmt.Sprint(q.name, q.kind), all(name.Find(z, q.name, q.kind)), all(records(q.want), q.e))
	}
}

// P6.5
func TestFind(t *testing.T) {
	found(t, zone("net.x", "a.net.x a 5 0.0.0.1; a.net.x a 6 0.0.0.2; a.net.x words 7 w; b.c.net.x aaaa 5 ::1"), []question{
		{"a.net.x", api.RecordA, "a.net.x a 5 0.0.0.1; a.net.x a 6 0.0.0.2", api.OK},
		{"a.net.x", api.RecordWords, "a.net.x words 7 w", api.OK},
		{"b.c.net.x", api.RecordAAAA, "b.c.net.x aaaa 5 ::1", api.OK},
		// It is there, with records of other kinds, or just above others.
		{"a.net.x", api.RecordAAAA, "", api.OK},
		{"a.net.x", api.RecordAlias, "", api.OK},
		{"c.net.x", api.RecordAAAA, "", api.OK},
		{"net.x", api.RecordA, "", api.OK},
		// It is not.
		{"b.net.x", api.RecordA, "", api.ErrNone},
		{"a.a.net.x", api.RecordA, "", api.ErrNone},
		{"ba.net.x", api.RecordA, "", api.ErrNone},
	})
	found(t, zone("x", ""), []question{{"x", api.RecordA, "", api.ErrNone}, {"a.x", api.RecordA, "", api.ErrNone}})
}

// P6.5
func TestFindStars(t *testing.T) {
	found(t, zone("x", "*.b.x a 5 0.0.0.1; *.b.x words 6 w; *.x a 7 0.0.0.2; a.b.x aaaa 5 ::1; d.c.x a 5 0.0.0.3"), []question{
		{"q.b.x", api.RecordA, "q.b.x a 5 0.0.0.1", api.OK},
		{"q.r.b.x", api.RecordA, "q.r.b.x a 5 0.0.0.1", api.OK},
		{"q.b.x", api.RecordWords, "q.b.x words 6 w", api.OK},
		// There are records at it, of other kinds.
		{"q.b.x", api.RecordAAAA, "", api.OK},
		// What is there has just its own records.
		{"a.b.x", api.RecordA, "", api.OK},
		{"b.x", api.RecordA, "", api.OK},
		{"x", api.RecordA, "", api.OK},
		// Behind what is there only stars behind this count.
		{"q.a.b.x", api.RecordA, "", api.ErrNone},
		{"q.c.x", api.RecordA, "", api.ErrNone},
		{"q.d.c.x", api.RecordA, "", api.ErrNone},
		{"q.x", api.RecordA, "q.x a 7 0.0.0.2", api.OK},
		{"q.r.x", api.RecordA, "q.r.x a 7 0.0.0.2", api.OK},
		{"q.r.x", api.RecordWords, "", api.OK},
	})
	// The name behind a star is there, also if nothing else is; what is above the root does not count.
	found(t, zone("net.x", "*.b.net.x a 5 0.0.0.1"), []question{
		{"b.net.x", api.RecordA, "", api.OK},
		{"net.x", api.RecordA, "", api.OK},
		{"c.net.x", api.RecordA, "", api.ErrNone},
		{"a.b.net.x", api.RecordA, "a.b.net.x a 5 0.0.0.1", api.OK},
	})
	found(t, zone("net.x", "*.net.x a 5 0.0.0.1"), []question{
		{"net.x", api.RecordA, "", api.OK},
		{"a.net.x", api.RecordA, "a.net.x a 5 0.0.0.1", api.OK},
		{long(253, "net.x"), api.RecordA, long(253, "net.x") + " a 5 0.0.0.1", api.OK},
	})
	// A star stands for names as they are, also with a star's own zone above it.
	found(t, zone("x", "*.x alias 5 a.b.x; a.b.x a 6 0.0.0.1"), []question{
		{"q.x", api.RecordA, "q.x alias 5 a.b.x; a.b.x a 6 0.0.0.1", api.OK},
		{"q.x", api.RecordAlias, "q.x alias 5 a.b.x", api.OK},
		{"q.b.x", api.RecordA, "", api.ErrNone},
	})
}

// P6.5
func TestFindAliases(t *testing.T) {
	found(t, zone("x", "*.s.x alias 1 e.s.x; *.w.x a 4 0.0.0.4; a.x alias 2 b.x; b.x alias 3 c.x; c.x a 4 0.0.0.1; c.x words 4 w; e.s.x alias 5 q.w.x; f.x alias 6 out.y; g.x alias 7 none.x; h.x alias 8 up; i.x alias 9 g.x; k.x alias 9 s.x; l.x alias 9 l.x"), []question{
		{"a.x", api.RecordA, "a.x alias 2 b.x; b.x alias 3 c.x; c.x a 4 0.0.0.1", api.OK},
		{"a.x", api.RecordWords, "a.x alias 2 b.x; b.x alias 3 c.x; c.x words 4 w", api.OK},
		{"b.x", api.RecordA, "b.x alias 3 c.x; c.x a 4 0.0.0.1", api.OK},
		{"a.x", api.RecordAlias, "a.x alias 2 b.x", api.OK},
		{"l.x", api.RecordAlias, "l.x alias 9 l.x", api.OK},
		// Stars at the beginning and at the end.
		{"q.s.x", api.RecordA, "q.s.x alias 1 e.s.x; e.s.x alias 5 q.w.x; q.w.x a 4 0.0.0.4", api.OK},
		// Nothing at the end: no records of the kind, no such name, a name that is just there, and one that is not under the root.
		{"a.x", api.RecordAAAA, "a.x alias 2 b.x; b.x alias 3 c.x", api.OK},
		{"g.x", api.RecordA, "g.x alias 7 none.x", api.OK},
		{"i.x", api.RecordA, "i.x alias 9 g.x; g.x alias 7 none.x", api.OK},
		{"k.x", api.RecordA, "k.x alias 9 s.x", api.OK},
		{"f.x", api.RecordA, "f.x alias 6 out.y", api.OK},
		{"h.x", api.RecordA, "h.x alias 8 up", api.OK},
		{"l.x", api.RecordA, "", api.ErrLoop},
	})
	// A chain of aliases a1, a2 and so on, with an end.
	chain := func(n int, end string) api.Zone {
		l := repeat(n, func(i int) string { return fmt.Sprintf("a%d.x alias 5 a%d.x", i+1, i+2) })
		l[n-1] = fmt.Sprintf("a%d.x alias 5 %s", n, end)
		return zone("x", strings.Join(append(l, "b.x a 5 0.0.0.1"), "; "))
	}
	for _, end := range []string{"b.x", "c.x", "b.y"} {
		z := chain(api.MaxChain, end)
		want := api.MaxChain
		if end == "b.x" {
			want++
		}
		l, e := name.Find(z, "a1.x", api.RecordA)
		is(t, "as many as can be, to "+end, all(len(l), e), all(want, api.OK))
		z = chain(api.MaxChain+1, end)
		is(t, "one too many, to "+end, all(name.Find(z, "a1.x", api.RecordA)), all([]api.Record{}, api.ErrLoop))
		l, e = name.Find(z, "a2.x", api.RecordA)
		is(t, "from the second one on", all(len(l), e), all(want, api.OK))
		is(t, "an alias", all(name.Find(z, "a1.x", api.RecordAlias)), all(z.Records[:1], api.OK))
	}
}

// asked is what Find is asked.
type asked struct {
	z    api.Zone
	name string
	kind int
}

// P6.5, Z4
func TestFindErrors(t *testing.T) {
	check := func(x asked) api.Errno { _, e := name.Find(x.z, x.name, x.kind); return e }
	ladder(t, "Find", asked{api.Zone{Root: tooLong}, "", 3}, check,
		step[asked]{api.ErrLarge, func(x *asked) { x.z = api.Zone{Root: "x", Records: records("x a 5 0.0.0.0; y a 5 0.0.0.0")} }},
		step[asked]{api.ErrRule, func(x *asked) { x.z = zone("x", "*.a.x alias 5 q.a.x") }},
		step[asked]{api.ErrName, func(x *asked) { x.name = tooLong }},
		step[asked]{api.ErrLarge, func(x *asked) { x.name = "x.y" }},
		step[asked]{api.ErrKind, func(x *asked) { x.kind = api.RecordA }},
		step[asked]{api.ErrRule, func(x *asked) { x.name = "ax" }},
		step[asked]{api.ErrRule, func(x *asked) { x.name = "b.x" }},
		step[asked]{api.ErrNone, func(x *asked) { x.name = "b.a.x" }},
		step[asked]{api.ErrLoop, func(x *asked) { x.name = "a.x" }})
	for _, n := range []string{"*.a.x", "*", "A.x"} {
		is(t, n, check(asked{zone("x", "*.a.x a 5 0.0.0.1"), n, api.RecordA}), api.ErrName)
	}
	for kind := -2; kind < 40; kind++ {
		want := api.ErrKind
		if slices.Contains(kinds, kind) {
			want = api.OK
		}
		is(t, fmt.Sprint(kind), check(asked{zone("x", "x a 5 0.0.0.1"), "x", kind}), want)
	}
}

// A teller tells again what chapter 6 says of a zone, by going through all of its records for each question.
type teller struct{ api.Zone }

func (z teller) there(n string) bool {
	return slices.ContainsFunc(z.Records, func(r api.Record) bool {
		s := strings.TrimPrefix(r.Name, "*.")
		return s == n || strings.HasSuffix(s, "."+n)
	})
}

func (z teller) at(n string) []api.Record {
	owner := n
	for labels := strings.Split(n, ".")[1:]; !z.there(n) && len(labels) > 0; labels = labels[1:] {
		if e := strings.Join(labels, "."); z.there(e) || e == z.Root {
			owner = "*." + e
			break
		}
	}
	var out []api.Record
	for _, r := range z.Records {
		if r.Name == owner {
			r.Name = n
			out = append(out, r)
		}
	}
	return out
}

// find finds records behind some aliases.
func (z teller) find(n string, kind, aliases int) ([]api.Record, api.Errno) {
	here := z.at(n)
	if !z.there(n) && len(here) == 0 && aliases == 0 {
		return nil, api.ErrNone
	}
	var out []api.Record
	for _, r := range here {
		if r.Kind == kind {
			out = append(out, r)
		}
	}
	if len(out) > 0 || len(here) != 1 || here[0].Kind != api.RecordAlias {
		return out, api.OK
	}
	to := here[0].To
	switch {
	case aliases == 8:
		return nil, api.ErrLoop
	case to != z.Root && !strings.HasSuffix(to, "."+z.Root):
		return here, api.OK
	}
	more, e := z.find(to, kind, aliases+1)
	if e != api.OK {
		return nil, e
	}
	return append(here, more...), api.OK
}

// P6.5
func TestFindAgain(t *testing.T) {
	r := newChance(7)
	count := map[string]int{}
	for range 3_000 {
		z := r.zone(pick(r, words("x a.x")))
		is(t, "the zone", name.CheckZone(z), api.OK)
		for range 5 {
			n, kind := r.below(z.Root), pick(r, kinds)
			want, e := teller{z}.find(n, kind, 0)
			is(t, fmt.Sprint(z, n, kind), all(name.Find(z, n, kind)), all(want, e))
			count[fmt.Sprint(e, min(len(want), 3))]++
		}
	}
	for _, what := range []string{"0 0", "0 1", "0 2", "0 3", "8 0", "14 0"} {
		if count[what] < 20 {
			t.Errorf("error and records %s: %d", what, count[what])
		}
	}
}
