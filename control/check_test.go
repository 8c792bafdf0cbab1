package control_test

import (
	"math"
	"slices"
	"strings"
	"testing"

	"holloway/api"
	"holloway/control"
)

// settingFaults are what can be wrong with a setting, in the order in which it is asked for.
func settingFaults() []fault[api.Setting] {
	long := strings.Repeat("a.", 200)
	return []fault[api.Setting]{
		{"a user", func(s *api.Setting) { s.Directory.Users[0] = "A" }, api.ErrName},
		{"Life", func(s *api.Setting) { s.Directory.Life = 0 }, api.ErrArg},
		{"a grant", func(s *api.Setting) { s.Policy.Grants[0].Src = nil }, api.ErrForm},
		{"a test", func(s *api.Setting) { s.Policy.Tests[0].Flow.To.Six = true }, api.ErrType},
		{"a posture", func(s *api.Setting) { s.Postures[0].Cond.Kind = 9 }, api.ErrKind},
		{"an approver", func(s *api.Setting) { s.Access[0].Approvers = words("bob ann") }, api.ErrOrder},
		{"a router", func(s *api.Setting) { s.Routers[1].Weight = 1_001 }, api.ErrArg},
		{"many places", func(s *api.Setting) { s.Places = make([]api.Place, api.MaxNodes+1) }, api.ErrLarge},
		{"a place", func(s *api.Setting) { s.Places[0].Node = "N" }, api.ErrName},
		{"two places", func(s *api.Setting) { s.Places[1].Node = "n1" }, api.ErrOrder},
		{"an address", func(s *api.Setting) { s.Places[1].Addrs[0].Hi = 1 }, api.ErrForm},
		{"two addresses", func(s *api.Setting) { s.Places[2].Addrs[0] = ip("fd00::1") }, api.ErrConflict},
		{"two routes", func(s *api.Setting) { s.Places[2].Routes[1] = s.Places[2].Routes[0] }, api.ErrTwice},
		{"a long suffix", func(s *api.Setting) { s.Suffix = long }, api.ErrLarge},
		{"no domain", func(s *api.Setting) { s.Suffix = "a_b" }, api.ErrName},
		{"no suffix", func(s *api.Setting) { s.Suffix = "0.net" }, api.ErrForm},
		{"Fresh", func(s *api.Setting) { s.Fresh = 0 }, api.ErrArg},
	}
}

// P10.1, Z4
func TestCheckSetting(t *testing.T) {
	inOrder(t, office, control.CheckSetting, settingFaults())
	for _, fresh := range []int{math.MinInt, -1, 0, api.End + 1, math.MaxInt} {
		s := office()
		s.Fresh = fresh
		is(t, "Fresh", control.CheckSetting(s), api.ErrArg)
	}
	for _, fresh := range []int{1, 2, api.End} {
		s := office()
		s.Fresh = fresh
		is(t, "Fresh", control.CheckSetting(s), api.OK)
	}
	label := strings.Repeat("a", api.MaxName)
	full := label + "." + label + "." + strings.Repeat("b", api.MaxSuffix-2*api.MaxName-2)
	for suffix, e := range map[string]api.Errno{
		"x": api.OK, "corp.net": api.OK, "a-b.c0": api.OK, "in-addr.arpa": api.OK, full: api.OK,
		"": api.ErrName, ".": api.ErrName, "a.": api.ErrName, "A": api.ErrName, "a b": api.ErrName, "a-": api.ErrName, "a_b.c": api.ErrName,
		"_a": api.ErrForm, "a.0": api.ErrForm, "9": api.ErrForm, full + "b": api.ErrForm, label + "a": api.ErrForm,
		strings.Repeat("a", 254): api.ErrLarge,
	} {
		s := office()
		s.Suffix = suffix
		is(t, "the suffix "+suffix, control.CheckSetting(s), e)
	}
	is(t, "the least one", control.CheckSetting(api.Setting{Directory: api.Directory{Life: 1}, Suffix: "x", Fresh: 1}), api.OK)
	is(t, "nothing", control.CheckSetting(api.Setting{}), api.ErrArg)
}

// bookFaults are what can be wrong with a book, in the order in which it is asked for.
func bookFaults() []fault[api.Book] {
	return []fault[api.Book]{
		{"a user", func(b *api.Book) { b.Setting.Directory.Users[0] = "A" }, api.ErrName},
		{"Fresh", func(b *api.Book) { b.Setting.Fresh = 0 }, api.ErrArg},
		{"a step", func(b *api.Book) { b.Steps[1].Kind = 0 }, api.ErrKind},
		{"two steps", func(b *api.Book) { b.Steps[2].No = 1 }, api.ErrTwice},
		{"a claim", func(b *api.Book) { b.Claims[3].At = -1 }, api.ErrArg},
		{"an asking", func(b *api.Book) { b.Askings[1].Long = 1 }, api.ErrForm},
		{"two askings", func(b *api.Book) { b.Askings[1].At = 3 }, api.ErrOrder},
		{"health", func(b *api.Book) { b.Health[0].Node = "" }, api.ErrName},
		{"two of health", func(b *api.Book) { b.Health[1] = b.Health[0] }, api.ErrOrder},
	}
}

// P10.1, Z4
func TestCheckBook(t *testing.T) {
	inOrder(t, day, control.CheckBook, bookFaults())
	for _, f := range settingFaults() {
		b := day()
		f.do(&b.Setting)
		is(t, f.name, control.CheckBook(b), f.e)
	}
	is(t, "nothing written down", control.CheckBook(api.Book{Setting: office()}), api.OK)
	is(t, "nothing", control.CheckBook(api.Book{}), api.ErrArg)
}

// full is a book of the office with all lists as long as they can be.
func full() api.Book {
	b := api.Book{Setting: office()}
	for i := range api.MaxSteps {
		b.Steps = append(b.Steps, api.Step{At: i, Server: "s", No: i + 1, Kind: api.StepName, By: "ann", Node: "n1", Name: "pc"})
		b.Claims = append(b.Claims, api.Claim{At: i, Node: "n1", Name: "level", Value: api.Attr{Kind: api.AttrNumber, Number: i}})
		b.Askings = append(b.Askings, api.Asking{At: i, Key: "k", By: "ann", Kind: api.AskYes})
		b.Health = append(b.Health, api.Health{At: i, Node: "n1", Up: true})
	}
	return b
}

// P10.1
func TestLimitsOfBooks(t *testing.T) {
	right(t, full())
	b := full()
	b.Steps = append(b.Steps, api.Step{})
	is(t, "steps", control.CheckBook(b), api.ErrLarge)
	b = full()
	b.Claims = append(b.Claims, api.Claim{})
	is(t, "claims", control.CheckBook(b), api.ErrLarge)
	b = full()
	b.Askings = append(b.Askings, api.Asking{})
	is(t, "askings", control.CheckBook(b), api.ErrLarge)
	b = full()
	b.Health = append(b.Health, api.Health{})
	is(t, "health", control.CheckBook(b), api.ErrLarge)
}

// P10.1
func TestMerge(t *testing.T) {
	a, b := day(), day()
	is(t, "the same", all(control.Merge(a, b)), all(a, api.OK))
	is(t, "nothing", all(control.Merge(api.Book{Setting: office()}, api.Book{Setting: office()})), all(api.Book{Setting: office()}, api.OK))
	a.Steps, b.Steps = slices.Delete(a.Steps, 1, 3), b.Steps[1:4]
	a.Claims, b.Claims = a.Claims[1:], b.Claims[:2]
	a.Askings, b.Askings = a.Askings[2:], b.Askings[:2]
	a.Health, b.Health = slices.Delete(a.Health, 0, 2), slices.Delete(b.Health, 2, 3)
	is(t, "parts", all(control.Merge(a, b)), all(day(), api.OK))
	is(t, "parts", all(control.Merge(b, a)), all(day(), api.OK))
	is(t, "nothing more", all(control.Merge(api.Book{Setting: office()}, a)), all(a, api.OK))
}

// conflicts are what makes another book of one that cannot be merged with it, in the order in which it is asked for.
func conflicts() []fault[api.Book] {
	return []fault[api.Book]{
		{"Fresh", func(b *api.Book) { b.Setting.Fresh++ }, api.ErrConflict},
		{"steps", func(b *api.Book) { b.Steps[0].Name = "pc" }, api.ErrConflict},
		{"steps at other moments", func(b *api.Book) { b.Steps[0].At-- }, api.ErrConflict},
		{"claims", func(b *api.Book) { b.Claims[0].Value.Number = 0 }, api.ErrConflict},
		{"askings", func(b *api.Book) { b.Askings[0].Long++ }, api.ErrConflict},
		{"askings of other kinds", func(b *api.Book) { b.Askings[2].Kind = api.AskStop }, api.ErrConflict},
		{"health", func(b *api.Book) { b.Health[0].Up = false }, api.ErrConflict},
	}
}

// P10.1, Z3, Z4
func TestMergeErrors(t *testing.T) {
	for _, f := range bookFaults() {
		b := day()
		f.do(&b)
		is(t, f.name, all(control.Merge(b, day())), all(api.Book{}, f.e))
		is(t, f.name, all(control.Merge(day(), b)), all(api.Book{}, f.e))
		for _, g := range conflicts() {
			b := day()
			g.do(&b)
			f.do(&b)
			is(t, f.name+", ahead of "+g.name, all(control.Merge(day(), b)), all(api.Book{}, f.e))
		}
	}
	a, b := day(), day()
	a.Health[0].Node, b.Steps[0].Kind = "", 0
	is(t, "the first one", all(control.Merge(a, b)), all(api.Book{}, api.ErrName))
	is(t, "the first one", all(control.Merge(b, a)), all(api.Book{}, api.ErrKind))
	for _, f := range conflicts() {
		b := day()
		f.do(&b)
		right(t, b)
		is(t, f.name, all(control.Merge(b, day())), all(api.Book{}, f.e))
		is(t, f.name, all(control.Merge(day(), b)), all(api.Book{}, f.e))
	}
	settings := []func(s *api.Setting){
		func(s *api.Setting) { s.Directory.Users = words("ann bob cid dan") },
		func(s *api.Setting) { s.Policy.Tests[0].Accept = false },
		func(s *api.Setting) { s.Postures[1].Cond.Kids[1].Value.Number++ },
		func(s *api.Setting) { s.Access[1].Need++ },
		func(s *api.Setting) { s.Routers[0].Weight++ },
		func(s *api.Setting) { s.Places[3].Addrs = s.Places[3].Addrs[:2] },
		func(s *api.Setting) { s.Suffix = "corp" },
	}
	for _, do := range settings {
		b := day()
		do(&b.Setting)
		right(t, b)
		is(t, "another setting", all(control.Merge(b, day())), all(api.Book{}, api.ErrConflict))
		is(t, "another setting", all(control.Merge(api.Book{Setting: b.Setting}, api.Book{Setting: office()})), all(api.Book{}, api.ErrConflict))
		is(t, "the same other setting", errnoOf(all(control.Merge(b, b))), api.OK)
	}
	s := office()
	s.Directory.Owners[0].Users, s.Places[0].Routes, s.Policy.Grants[0].Postures = append([]string{}, "bob"), []api.Prefix{}, []string{}
	is(t, "empty lists", errnoOf(all(control.Merge(api.Book{Setting: s}, day()))), api.OK)
}

// P10.1, Z4: each list can be too long, and a list ahead of it can be wrong.
func TestMergeOfMany(t *testing.T) {
	odd := []fault[api.Book]{
		{"Fresh", func(b *api.Book) { b.Setting.Fresh++ }, api.ErrConflict},
		{"steps", func(b *api.Book) { b.Steps = []api.Step{b.Steps[0]}; b.Steps[0].Server = "t" }, api.ErrLarge},
		{"claims", func(b *api.Book) { b.Claims = []api.Claim{b.Claims[0]}; b.Claims[0].Name = "more" }, api.ErrLarge},
		{"a claim", func(b *api.Book) { b.Claims = []api.Claim{b.Claims[0]}; b.Claims[0].Value.Number = 7 }, api.ErrConflict},
		{"askings", func(b *api.Book) { b.Askings = []api.Asking{b.Askings[0]}; b.Askings[0].By = "bob" }, api.ErrLarge},
		{"an asking", func(b *api.Book) { b.Askings = []api.Asking{b.Askings[0]}; b.Askings[0].Kind = api.AskNo }, api.ErrConflict},
		{"health", func(b *api.Book) { b.Health = []api.Health{b.Health[0]}; b.Health[0].Node = "n2" }, api.ErrLarge},
		{"one of health", func(b *api.Book) { b.Health = []api.Health{b.Health[0]}; b.Health[0].Up = false }, api.ErrConflict},
	}
	inOrder(t, full, func(b api.Book) api.Errno { return errnoOf(all(control.Merge(full(), b))) }, odd)
	inOrder(t, full, func(b api.Book) api.Errno { return errnoOf(all(control.Merge(b, full()))) }, odd)
	b := full()
	b.Health = append(b.Health[1:], api.Health{At: 5_000, Node: "n1"}, api.Health{At: 5_000, Node: "n2"})[:api.MaxHealth]
	b.Health[0].Up = false
	is(t, "a conflict, ahead of too many", all(control.Merge(full(), b)), all(api.Book{}, api.ErrConflict))
	b = full()
	b.Askings = append(b.Askings[1:], api.Asking{At: 5_000, Key: "k", By: "ann", Kind: api.AskYes})
	b.Askings[0].Kind = api.AskNo
	is(t, "a conflict, ahead of too many", all(control.Merge(full(), b)), all(api.Book{}, api.ErrConflict))
}

// P10.1, P10.2: books that are merged in any order are the same, and have all that was written down.
func TestMergeOfParts(t *testing.T) {
	r := newChance(1)
	for range 200 {
		b := r.book()
		right(t, b)
		parts := repeat(3, func(int) api.Book {
			return api.Book{Setting: b.Setting, Steps: some(r, b.Steps), Claims: some(r, b.Claims), Askings: some(r, b.Askings), Health: some(r, b.Health)}
		})
		parts = append(parts, b)
		want := fmtOf(b)
		for range 3 {
			r.Shuffle(len(parts), func(i, k int) { parts[i], parts[k] = parts[k], parts[i] })
			merged := parts[0]
			for _, p := range parts[1:] {
				merged = must(control.Merge(merged, p))
			}
			is(t, "Merge", fmtOf(merged), want)
		}
		x := must(control.Merge(parts[0], parts[1]))
		for _, p := range parts[:2] {
			is(t, "all of it", fmtOf(must(control.Merge(x, p))), fmtOf(x))
		}
	}
}
