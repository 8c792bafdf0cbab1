package filter_test

import (
	"fmt"
	"reflect"
	"slices"
	"testing"

	"holloway/addr"
	"holloway/api"
	"holloway/filter"
)

// P4.3: the rules one by one, and their order.
func TestSqueeze(t *testing.T) {
	for _, c := range []struct{ name, l, want string }{
		{"none", "", ""},
		{"one", "6 10.0.0.0/8 10.0.0.0/9 80", "6 10.0.0.0/8 10.0.0.0/9 80"},
		{"equal ones", "6 10.0.0.0/8 10.0.0.0/9 80; 6 10.0.0.0/8 10.0.0.0/9 80", "6 10.0.0.0/8 10.0.0.0/9 80"},
		{"the second one lies in the first one", "any 10.0.0.0/8 10.0.0.0/8 80-90; 6 10.0.0.0/9,10.192.0.0/10 10.1.0.0/16 80,84-90", "any 10.0.0.0/8 10.0.0.0/8 80-90"},
		{"the first one lies in the second one", "6 10.0.0.0/9 10.1.0.0/16 80; 17 10.0.0.0/8 10.0.0.0/8 80; any 10.0.0.0/8 10.0.0.0/8 80-90", "any 10.0.0.0/8 10.0.0.0/8 80-90"},
		{"the latter one stays where it is", "6 10.0.0.0/9 10.1.0.0/16 80; 17 11.0.0.0/8 11.0.0.0/8 7; 6 10.0.0.0/8 10.0.0.0/8 80-90", "17 11.0.0.0/8 11.0.0.0/8 7; 6 10.0.0.0/8 10.0.0.0/8 80-90"},
		{"another protocol", "6 10.0.0.0/8 10.0.0.0/8 80; 17 10.0.0.0/8 10.0.0.0/8 80", "6 10.0.0.0/8 10.0.0.0/8 80; 17 10.0.0.0/8 10.0.0.0/8 80"},
		{"one for all protocols is not in one for some", "6 10.0.0.0/8 10.0.0.0/8 80-90; any 10.0.0.0/8 10.0.0.0/8 80", "6 10.0.0.0/8 10.0.0.0/8 80-90; any 10.0.0.0/8 10.0.0.0/8 80"},
		{"one for all protocols is not put together with one for some", "6 10.0.0.0/9 10.0.0.0/8 80; any 10.128.0.0/9 10.0.0.0/8 80", "6 10.0.0.0/9 10.0.0.0/8 80; any 10.128.0.0/9 10.0.0.0/8 80"},
		{"sources", "6 10.0.0.0/9 10.0.0.0/8 80,90; 6 10.128.0.0/9,fd00::/8 10.0.0.0/8 80,90", "6 10.0.0.0/8,fd00::/8 10.0.0.0/8 80,90"},
		{"targets", "6 10.0.0.0/8 10.0.0.0/9 80,90; 6 10.0.0.0/8 10.128.0.0/9,fd00::/8 80,90", "6 10.0.0.0/8 10.0.0.0/8,fd00::/8 80,90"},
		{"ports", "6 10.0.0.0/8 10.0.0.0/8 80,90-91; 6 10.0.0.0/8 10.0.0.0/8 81,92", "6 10.0.0.0/8 10.0.0.0/8 80-81,90-92"},
		{"two parts differ", "6 10.0.0.0/8 11.0.0.0/8 80; 6 11.0.0.0/8 10.0.0.0/8 80; 6 10.0.0.0/8 10.0.0.0/8 81", "6 10.0.0.0/8 11.0.0.0/8 80; 6 11.0.0.0/8 10.0.0.0/8 80; 6 10.0.0.0/8 10.0.0.0/8 81"},
		{"again and again", "6 10.0.0.0/9 10.0.0.0/9 80; 6 10.128.0.0/9 10.0.0.0/9 80; 6 10.0.0.0/8 10.128.0.0/9 80; 6 10.0.0.0/8 10.0.0.0/8 81", "6 10.0.0.0/8 10.0.0.0/8 80-81"},
		{"what is put together has others", "6 10.0.0.0/9 10.0.0.0/8 80; 6 10.64.0.0/10,10.128.0.0/10 10.0.0.0/9 80; 6 10.128.0.0/9 10.0.0.0/8 80", "6 10.0.0.0/8 10.0.0.0/8 80"},
		// In each of these another order leads to something else.
		{"sources ahead of targets", "6 10.0.0.0/32 10.0.0.0/32 80; 6 10.0.0.0/32 10.0.0.2/32 80; 6 10.0.0.2/32 10.0.0.0/32 80", "6 10.0.0.0/32,10.0.0.2/32 10.0.0.0/32 80; 6 10.0.0.0/32 10.0.0.2/32 80"},
		{"targets ahead of ports", "6 10.0.0.0/32 10.0.0.0/32 80; 6 10.0.0.0/32 10.0.0.0/32 82; 6 10.0.0.0/32 10.0.0.2/32 80", "6 10.0.0.0/32 10.0.0.0/32,10.0.0.2/32 80; 6 10.0.0.0/32 10.0.0.0/32 82"},
		{"the first two", "6 10.0.0.0/32 10.0.0.0/32 80; 6 10.0.0.0/32 10.0.0.0/32 82; 6 10.0.0.2/32 10.0.0.0/32 82; 6 10.0.0.2/32 10.0.0.0/32 80", "6 10.0.0.0/32,10.0.0.2/32 10.0.0.0/32 80,82"},
		{"what lies in one goes first", "6 10.0.0.0/32 10.0.0.0/32 80; 6 10.0.0.2/32 10.0.0.0/32 80; 6 10.0.0.0/31 10.0.0.0/31 80", "6 10.0.0.2/32 10.0.0.0/32 80; 6 10.0.0.0/31 10.0.0.0/31 80"},
	} {
		l, e := filter.Squeeze(rows(c.l))
		is(t, c.name, all(shownRows(l), e), all(lines(c.want), api.OK))
	}
}

// P4.3: a part of MaxSet, and one of more.
func TestSqueezeToTheBound(t *testing.T) {
	half := api.MaxSet / 2
	for _, more := range []int{0, 1} {
		sets, list := apart(api.MaxSet+more), apartPorts(api.MaxSet+more)
		one, some := nets("10.0.0.0/8"), ports(7, 7)
		for _, c := range []struct {
			name string
			l    []api.Filter
			want api.Filter
		}{
			{"sources", []api.Filter{{Src: sets[:half], Dst: one, Ports: some}, {Src: sets[half:], Dst: one, Ports: some}}, api.Filter{Src: sets, Dst: one, Ports: some}},
			{"targets", []api.Filter{{Src: one, Dst: sets[:half], Ports: some}, {Src: one, Dst: sets[half:], Ports: some}}, api.Filter{Src: one, Dst: sets, Ports: some}},
			{"ports", []api.Filter{{Src: one, Dst: one, Ports: list[half:]}, {Src: one, Dst: one, Ports: list[:half]}}, api.Filter{Src: one, Dst: one, Ports: list}},
		} {
			want, e := []api.Filter{c.want}, api.OK
			if more > 0 {
				want, e = nil, api.ErrLarge
			}
			is(t, c.name, all(filter.Squeeze(c.l)), all(want, e))
			// What lies in another row goes before anything could be too large.
			whole := api.Filter{Src: nets("0.0.0.0/0"), Dst: nets("0.0.0.0/0"), Ports: allPorts}
			is(t, c.name+" in one row", all(filter.Squeeze(append(c.l, whole))), all([]api.Filter{whole}, api.OK))
		}
	}
}

// P4.3, Z1: as many rows as there can be, each as long as can be.
func TestSqueezeOfFullRows(t *testing.T) {
	l := fullRows()
	is(t, "equal ones", all(filter.Squeeze(l)), all(l[:1], api.OK))
	for i := range l {
		l[i].Src = []api.Prefix{{Addr: api.Addr{Lo: uint64(2 * i)}, Bits: 32}}
	}
	want := l[0]
	want.Src = apart(api.MaxFilters)
	is(t, "neighbours", all(filter.Squeeze(l)), all([]api.Filter{want}, api.OK))
}

// inside says whether a row lies in another one, as the document tells it.
func inside(k, i api.Filter) bool {
	src, _ := addr.Covers(i.Src, k.Src)
	dst, _ := addr.Covers(i.Dst, k.Dst)
	least, _ := filter.LeastPorts(slices.Concat(i.Ports, k.Ports))
	return (i.Proto == 0 || i.Proto == k.Proto) && src && dst && slices.Equal(least, i.Ports)
}

// step does what a rule says of two rows, if it applies: the first one gone means that only the second one is left.
func step(rule int, x, y *api.Filter) (applies, firstGoes bool) {
	src, dst, some := slices.Equal(x.Src, y.Src), slices.Equal(x.Dst, y.Dst), slices.Equal(x.Ports, y.Ports)
	same := x.Proto == y.Proto
	switch {
	case rule == 1:
		return inside(*y, *x), false
	case rule == 2:
		return inside(*x, *y), true
	case rule == 3 && same && dst && some:
		x.Src = union(x.Src, y.Src)
	case rule == 4 && same && src && some:
		x.Dst = union(x.Dst, y.Dst)
	case rule == 5 && same && src && dst:
		x.Ports, _ = filter.LeastPorts(slices.Concat(x.Ports, y.Ports))
	default:
		return false, false
	}
	return true, false
}

// squeezed are rows as the document squeezes them, all looked at anew for each step; the counts are of the rules that applied.
func squeezed(l []api.Filter, count map[int]int) []api.Filter {
	l = slices.Clone(l)
	for rule := 1; rule <= 5; rule++ {
		for i := range l {
			for k := i + 1; k < len(l); k++ {
				applies, firstGoes := step(rule, &l[i], &l[k])
				if !applies {
					continue
				}
				count[rule]++
				gone := k
				if firstGoes {
					gone = i
				}
				return squeezed(slices.Delete(l, gone, gone+1), count)
			}
		}
	}
	return l
}

// P4.3: random rows are held against a second telling; Squeeze changes no decision.
func TestSqueezeOfMany(t *testing.T) {
	r := newChance(5)
	each := flows()
	count := map[int]int{}
	for range 1_500 {
		l := r.rows(r.Intn(9))
		got, e := filter.Squeeze(l)
		if want := squeezed(l, count); e != api.OK || len(got) != len(want) || len(got) > 0 && !reflect.DeepEqual(got, want) {
			t.Fatalf("Squeeze of\n%sgot %v and\n%swant\n%s", shownRows(l), e, shownRows(got), shownRows(want))
		}
		for range 20 {
			f := pick(r, each)
			want, _ := filter.Decides(l, f)
			is(t, fmt.Sprint(shownRows(l), f), all(filter.Decides(got, f)), all(want, api.OK))
		}
	}
	for rule := 1; rule <= 5; rule++ {
		if count[rule] < 100 {
			t.Errorf("rule %d applied %d times", rule, count[rule])
		}
	}
}

// P4.3: Compile is Squeeze of Rows, with its error behind that of Rows.
func TestCompile(t *testing.T) {
	s := scene(people, "allow user:ann -> tag:web;443 proto 6; allow user:bob -> tag:web;443 proto 6; allow * -> node:w;22 proto 6; allow user:ann -> node:w;22 proto 6", "")
	l, e := filter.Compile(s, "w")
	is(t, "Compile", all(shownRows(l), e), all(lines("6 100.64.0.1/32,100.64.0.2/31,100.64.0.7/32 100.64.0.9/32 443; 6 0.0.0.0/0,::/0 100.64.0.9/32 22"), api.OK))
	r := newChance(6)
	for range 300 {
		s := r.scene()
		made, _ := filter.Rows(s, "n1")
		want, e := filter.Squeeze(made)
		is(t, "Compile", all(filter.Compile(s, "n1")), all(want, e))
	}
	// Two users have more addresses together than a set can have.
	s = crowd(api.MaxSet+4, func(i int) string { return words("ann bob")[i%2] })
	for _, user := range words("ann bob") {
		s.Policy.Grants = append(s.Policy.Grants, api.Grant{Src: []api.What{{Kind: api.WhatUser, Name: user}}, Dst: []api.Target{{What: api.What{Kind: api.WhatNode, Name: key(7)}, Ports: allPorts[0]}}})
	}
	l, e = filter.Rows(s, key(7))
	is(t, "Rows", all(len(l), e), all(2, api.OK))
	is(t, "Compile", all(filter.Compile(s, key(7))), all([]api.Filter{}, api.ErrLarge))
}
