package control_test

import (
	"fmt"
	"math"
	"slices"
	"strings"
	"testing"

	"holloway/api"
	"holloway/control"
	"holloway/netmap"
	"holloway/node"
	"holloway/posture"
	"holloway/rule"
)

// P10.4
func TestTry(t *testing.T) {
	b := day()
	try := func(at int, do func(s *api.Setting)) api.Trial {
		s := office()
		do(&s)
		return must(control.Try(b, s, at))
	}
	is(t, "the same", try(20, func(*api.Setting) {}), api.Trial{})
	is(t, "tests that fail", try(5, func(*api.Setting) {}), api.Trial{Failing: []int{0}})
	is(t, "other tests", try(20, func(s *api.Setting) { s.Policy.Tests[0].Accept = false }), api.Trial{Failing: []int{0}})
	is(t, "nothing is permitted", try(20, func(s *api.Setting) { s.Policy = api.Policy{} }),
		api.Trial{Differs: true, Flow: api.Flow{Proto: 1, From: ip("100.64.0.1"), To: ip("10.0.0.0")}, Maps: words("n1 n2 n3")})
	is(t, "another port", try(9, func(s *api.Setting) { s.Policy.Grants[0].Dst[0].Ports = api.Ports{From: 81, To: 81} }),
		api.Trial{Differs: true, Flow: api.Flow{Proto: 6, From: ip("100.64.0.1"), To: ip("100.64.0.2"), ToPort: 80}, Failing: []int{0}, Maps: words("n2")})
	is(t, "all must be approved", try(20, func(s *api.Setting) { s.Directory.Approve = true }),
		api.Trial{Go: words("n1 n2 n3"), Differs: true, Flow: api.Flow{Proto: 1, From: ip("100.64.0.1"), To: ip("10.0.0.0")}, Failing: []int{0}})
	is(t, "keys that last for less", try(20, func(s *api.Setting) { s.Directory.Life = 11 }),
		api.Trial{Go: words("n1 n2"), Differs: true, Flow: api.Flow{Proto: 1, From: ip("100.64.0.1"), To: ip("10.0.0.0")}, Failing: []int{0}, Maps: words("n3")})
	is(t, "keys that last for longer", try(105, func(s *api.Setting) { s.Directory.Life = 101 }),
		api.Trial{Come: words("n1"), Differs: true, Flow: api.Flow{Proto: 6, From: ip("100.64.0.1"), To: ip("100.64.0.2"), ToPort: 80}, Maps: words("n2")})
	is(t, "another suffix", try(20, func(s *api.Setting) { s.Suffix = "x" }), api.Trial{Maps: words("n1 n2 n3")})
	is(t, "another place", try(9, func(s *api.Setting) { s.Places[1].Routes = nil }), api.Trial{Maps: words("n2")})
	is(t, "other routers", try(20, func(s *api.Setting) { s.Routers = s.Routers[:1] }), api.Trial{Maps: words("n1 n2")})
	is(t, "claims that are fresh for less", try(20, func(s *api.Setting) { s.Fresh = 1 }),
		api.Trial{Differs: true, Flow: api.Flow{Proto: 1, From: ip("100.64.0.1"), To: ip("10.0.0.0")}, Maps: words("n1 n2 n3")})
	is(t, "nobody is there", try(0, func(s *api.Setting) { s.Policy = api.Policy{} }),
		api.Trial{})
}

// self is a policy of some grants of which who leads everywhere gets 20 rows for each user.
func self(grants int) api.Policy {
	return policy(joined(repeat(grants, func(i int) string {
		return "allow * -> " + strings.Join(repeat(20, func(k int) string { return fmt.Sprint("self;", 20*i+k) }), ",")
	})))
}

// P10.4: a node that has a map in one world alone, or in none.
func TestTryWithoutMaps(t *testing.T) {
	b := api.Book{Setting: office(), Steps: steps("1 s 1 join ann n1 - 0a mac; 2 s 2 join bob n2 - 0b mac; 3 s 3 join cid n3 - 0c mac; 4 s 4 join dan n4 - 0d mac")}
	b.Setting.Directory.Users = words("ann bob cid dan")
	b.Setting.Places = places("n1 100.64.0.1 0.0.0.0/0; n2 100.64.0.2; n3 100.64.0.3; n4 100.64.0.4")
	maps := func(before, behind api.Policy, at int) []string {
		b.Setting.Policy = before
		s := b.Setting
		s.Policy = behind
		return must(control.Try(b, s, at)).Maps
	}
	none := api.Policy{}
	is(t, "all have other maps", maps(none, self(6), 2), words("n1 n2"))
	is(t, "n1 has none behind", maps(none, self(6), 3), words("n1 n2 n3"))
	is(t, "n1 has none ahead", maps(self(6), none, 3), words("n1 n2 n3"))
	other := self(4)
	other.Grants[0].Dst[0].Ports.To = api.MaxPort
	is(t, "all have other maps", maps(self(4), other, 3), words("n1 n2 n3"))
	is(t, "n1 has none at all", maps(self(4), other, 4), words("n2 n3 n4"))
	is(t, "n1 has none at all", maps(self(4), self(4), 4), []string{})
}

// P10.4, Z3, Z4
func TestTryErrors(t *testing.T) {
	none := func(name string, b api.Book, s api.Setting, at int, e api.Errno) {
		t.Helper()
		is(t, name, all(control.Try(b, s, at)), all(api.Trial{}, e))
	}
	wrong := office()
	wrong.Suffix = ""
	for _, f := range bookFaults() {
		b := day()
		f.do(&b)
		none(f.name, b, wrong, -1, f.e)
	}
	for _, f := range settingFaults() {
		s := office()
		f.do(&s)
		none(f.name, day(), s, -1, f.e)
	}
	for _, at := range notMoments {
		none("no moment", crowd(29, 69), crowd(29, 69).Setting, at, api.ErrArg)
	}
	small := crowd(29, 69).Setting
	small.Postures = small.Postures[1:]
	none("too many facts", crowd(29, 69), small, 1_028, api.ErrLarge)
	b := crowd(29, 69)
	b.Setting = small
	none("too many facts with the other one", b, crowd(29, 69).Setting, 1_028, api.ErrLarge)
	is(t, "not too many", errnoOf(all(control.Try(b, small, 1_028))), api.OK)
	s := office()
	s.Policy.Grants = slices.Concat(s.Policy.Grants, s.Policy.Grants, s.Policy.Grants)
	is(t, "eight grants", errnoOf(all(control.Try(day(), s, 9))), api.OK)
	s.Policy.Grants = append(s.Policy.Grants, s.Policy.Grants[0])
	none("nine grants", day(), s, 9, api.ErrLarge)
}

// P10.4: trials are as the chapters tell them of both worlds.
func TestTryOfMany(t *testing.T) {
	r := newChance(6)
	count := map[string]int{}
	for range 400 {
		b, s := r.book(), r.setting()
		b.Setting.Policy.Grants = b.Setting.Policy.Grants[:min(4, len(b.Setting.Policy.Grants))]
		s.Policy.Grants = s.Policy.Grants[:min(4, len(s.Policy.Grants))]
		switch r.Intn(3) {
		case 0:
			s = b.Setting
		case 1:
			p := s.Policy
			s = b.Setting
			s.Policy = p
		}
		at := r.Intn(lastTold + 10)
		v := must((teller{b}).world(at))
		other := b
		other.Setting = s
		w := must((teller{other}).world(at))
		var want api.Trial
		var both []string
		before, behind := must(node.Live(b.Setting.Directory, b.Steps, at)), must(node.Live(s.Directory, b.Steps, at))
		for _, key := range someNodes {
			switch in, out := slices.Contains(before, key), slices.Contains(behind, key); {
			case in && out:
				both = append(both, key)
			case in:
				want.Go = append(want.Go, key)
			case out:
				want.Come = append(want.Come, key)
			}
		}
		f, differs, e := rule.Differ(v.Scene, w.Scene)
		is(t, "Differ", e, api.OK)
		want.Flow, want.Differs, want.Failing = f, differs, must(rule.Failures(w.Scene))
		for _, key := range both {
			if fmtOf(must(netmap.Make(v, key))) != fmtOf(must(netmap.Make(w, key))) {
				want.Maps = append(want.Maps, key)
			}
		}
		is(t, "Try", all(control.Try(b, s, at)), all(want, api.OK))
		for name, n := range map[string]int{"Come": len(want.Come), "Go": len(want.Go), "Failing": len(want.Failing), "Maps": len(want.Maps), "alike": len(both) - len(want.Maps)} {
			count[name] += min(n, 1)
		}
		if differs {
			count["Differs"]++
		}
	}
	for _, name := range words("Come Go Failing Maps alike Differs") {
		if count[name] < 20 {
			t.Errorf("%s: %d", name, count[name])
		}
	}
}

// P10.4
func TestAudit(t *testing.T) {
	b := day()
	is(t, "Audit", all(control.Audit(b)), all([]api.Note{{At: 15, Kind: api.NoteAsking, Number: 2, By: "ann", Why: api.ErrState}}, api.OK))
	b.Steps = steps("5 s1 1 join ann n1 - 0a mac; 15 s1 2 join - n2 j 0a mac; 15 s1 3 gone bob n1; 15 s2 1 gone zed n1; 30 s1 4 gone ann n2")
	b.Askings = append(b.Askings, askings("15 yes k2 bob; 16 stop k1 bob; 30 yes k1 bob")...)
	right(t, b)
	is(t, "by moments, then kinds, then numbers", all(control.Audit(b)), all([]api.Note{
		{At: 15, Kind: api.NoteStep, Number: 1, By: "", Why: api.ErrNone},
		{At: 15, Kind: api.NoteStep, Number: 2, By: "bob", Why: api.ErrRule},
		{At: 15, Kind: api.NoteStep, Number: 3, By: "zed", Why: api.ErrNone},
		{At: 15, Kind: api.NoteAsking, Number: 2, By: "ann", Why: api.ErrState},
		{At: 15, Kind: api.NoteAsking, Number: 3, By: "bob", Why: api.ErrNone},
		{At: 30, Kind: api.NoteStep, Number: 4, By: "ann", Why: api.ErrNone},
		{At: 30, Kind: api.NoteAsking, Number: 5, By: "bob", Why: api.ErrState},
	}, api.OK))
	is(t, "nothing", all(control.Audit(api.Book{Setting: office()})), all([]api.Note{}, api.OK))
}

// P10.4: notes are all that is refused, by moments.
func TestAuditOfMany(t *testing.T) {
	r := newChance(7)
	notes := 0
	for range 200 {
		b := r.book()
		refusedSteps := must(node.Refused(b.Setting.Directory, b.Steps))
		refusedAskings := must(posture.Refused(b.Setting.Access, b.Askings))
		var want []api.Note
		for at := range lastChange {
			for _, x := range refusedSteps {
				if s := b.Steps[x.Step]; s.At == at {
					want = append(want, api.Note{At: at, Kind: 1, Number: x.Step, By: s.By, Why: x.Why})
				}
			}
			for _, x := range refusedAskings {
				if s := b.Askings[x.Step]; s.At == at {
					want = append(want, api.Note{At: at, Kind: 2, Number: x.Step, By: s.By, Why: x.Why})
				}
			}
		}
		is(t, "Audit", all(control.Audit(b)), all(want, api.OK))
		notes += len(want)
	}
	if notes < 500 {
		t.Errorf("%d notes", notes)
	}
}

// P10.4
func TestTold(t *testing.T) {
	b := day()
	m := func(key string, at int) api.Map { return must(control.MapOf(b, key, at)) }
	whole := func(version int, m api.Map) api.Update { return api.Update{Version: version, Whole: true, Map: m} }
	patch := func(version int, m, n api.Map) api.Update {
		return api.Update{Version: version, Patch: must(netmap.Between(m, n))}
	}
	is(t, "n1", all(control.Told(b, "n1", []int{0, 5, 8, 9, 104, 105, 200})), all([]api.Update{
		{}, whole(2, m("n1", 5)), {Version: 3}, patch(4, m("n1", 5), m("n1", 9)), patch(5, m("n1", 9), m("n1", 104)), {}, {},
	}, api.OK))
	b.Steps = append(b.Steps, steps("120 s1 4 renew ann n1 ff")...)
	is(t, "n1 comes back", all(control.Told(b, "n1", []int{9, 110, 111, 120})), all([]api.Update{
		whole(1, m("n1", 9)), {}, {}, patch(4, m("n1", 9), m("n1", 120)),
	}, api.OK))
	is(t, "nobody", all(control.Told(b, "zed", []int{9, 110})), all([]api.Update{{}, {}}, api.OK))
	is(t, "never", all(control.Told(b, "n1", nil)), all([]api.Update{}, api.OK))
	moments := repeat(api.MaxMoments, func(i int) int { return 9 + i })
	l := must(control.Told(b, "n1", moments))
	is(t, "often", all(len(l), l[0].Version, l[0].Whole, l[49].Version, l[49].Whole), all(50, 1, true, 50, false))
	b.Steps = steps("9 s1 1 join ann n1 - 0a mac; 10 s1 2 expire ann n1; 58 s1 3 renew ann n1 0b")
	l = must(control.Told(b, "n1", moments))
	is(t, "all versions are kept", all(l[0].Version, l[1].Version, l[48].Version, l[49].Version, l[49].Whole), all(1, 0, 0, 50, false))
}

// P10.4, Z3, Z4
func TestToldErrors(t *testing.T) {
	many := repeat(api.MaxMoments+1, func(i int) int { return -i })
	for _, c := range []struct {
		name    string
		b       api.Book
		key     string
		moments []int
		e       api.Errno
	}{
		{"a book", api.Book{}, "K", many, api.ErrArg},
		{"no key", day(), "K", many, api.ErrName},
		{"no key, and never", day(), "", nil, api.ErrName},
		{"too many", day(), "n1", many, api.ErrLarge},
		{"no moment", day(), "n1", []int{-1, -1}, api.ErrArg},
		{"no moment", day(), "n1", []int{5, api.End, 5}, api.ErrArg},
		{"no moment", day(), "n1", []int{5, math.MinInt}, api.ErrArg},
		{"twice", day(), "n1", []int{5, 5, -1}, api.ErrOrder},
		{"back", day(), "n1", []int{5, 9, 8}, api.ErrOrder},
		{"out of order, ahead of too many facts", crowd(29, 69), "k0000", []int{1_028, 1_027}, api.ErrOrder},
		{"too many facts", crowd(29, 69), "k0000", []int{1_027, 1_028}, api.ErrLarge},
		{"too many facts", crowd(29, 69), "k0000", []int{1_028, 2_000}, api.ErrLarge},
		{"too many facts for one that is not there", crowd(29, 69), "zed", []int{1_028, 2_000}, api.ErrLarge},
	} {
		is(t, c.name, all(control.Told(c.b, c.key, c.moments)), all([]api.Update{}, c.e))
	}
	is(t, "not too many facts", errnoOf(all(control.Told(crowd(29, 69), "k0000", []int{1_027, 1_500}))), api.OK)
}

// P10.4: polling has an error, too, if there is no map.
func TestToldWithoutMaps(t *testing.T) {
	b := api.Book{Setting: office(), Steps: steps("1 s 1 join ann n1 - 0a mac; 4 s 2 join bob n2 - 0b mac; 6 s 3 join cid n3 - 0c mac; 8 s 4 gone cid n3")}
	b.Setting.Policy = self(6)
	b.Setting.Places = places("n1 100.64.0.1 0.0.0.0/0; n2 100.64.0.2; n3 100.64.0.3")
	right(t, b)
	l := must(control.Told(b, "n1", []int{1, 4, 6, 7, 8}))
	is(t, "versions", all(l[0].Version, l[1].Version, l[4].Version), all(1, 2, 5))
	is(t, "no maps", l[2:4], []api.Update{{}, {}})
	is(t, "a patch of what it was told last", l[4], api.Update{Version: 5, Patch: must(netmap.Between(must(control.MapOf(b, "n1", 4)), must(control.MapOf(b, "n1", 8))))})
}

// P10.4: what a node is told is a patch of what it was told last; taking all that it has the map of each moment.
func TestToldOfMany(t *testing.T) {
	r := newChance(8)
	wholes, patches, nothings := 0, 0, 0
	for range 150 {
		b := r.book()
		o := teller{b}
		var moments []int
		for at := r.Intn(9); at < lastTold+20; at += 1 + r.Intn(9) {
			moments = append(moments, at)
		}
		for _, key := range someNodes {
			l := must(control.Told(b, key, moments))
			is(t, "one for each moment", len(l), len(moments))
			var m, last api.Map
			have, told := 0, false
			for i, at := range moments {
				now, e := netmap.Make(must(o.world(at)), key)
				want := api.Update{}
				switch {
				case e != api.OK:
					nothings++
				case !told:
					want = api.Update{Version: i + 1, Whole: true, Map: now}
					wholes++
				default:
					want = api.Update{Version: i + 1, Patch: must(netmap.Between(last, now))}
					patches++
				}
				is(t, "Told", l[i], want)
				if e != api.OK {
					continue
				}
				last, told = now, true
				var wrong api.Errno
				m, have, wrong = netmap.Take(m, have, l[i])
				is(t, "Take", all(wrong, have), all(api.OK, i+1))
				is(t, "its map", m, must(control.MapOf(b, key, at)))
			}
		}
	}
	if wholes < 200 || patches < 500 || nothings < 500 {
		t.Errorf("%d maps, %d patches, %d times nothing", wholes, patches, nothings)
	}
}
