package filter

import (
	"slices"

	"holloway/api"
	"holloway/ports"
	"holloway/span"
)

// A shelf keeps least lists by numbers, equal ones by the same one, and remembers which one has all of which: the lists of rows can be long, and many rows share some.
type shelf[T comparable] struct {
	lists  [][]T
	least  func(l []T) []T
	covers func(a, b []T) bool
	known  map[[2]int]bool
}

// put is the number of a list.
func (s *shelf[T]) put(l []T) int {
	i := slices.IndexFunc(s.lists, func(x []T) bool { return slices.Equal(x, l) })
	if i < 0 {
		i = len(s.lists)
		s.lists = append(s.lists, l)
	}
	return i
}

// join is the number of the list with all of two lists.
func (s *shelf[T]) join(a, b int) int {
	return s.put(s.least(slices.Concat(s.lists[a], s.lists[b])))
}

// has says whether a list has all of another one.
func (s *shelf[T]) has(a, b int) bool {
	pair := [2]int{a, b}
	is, ok := s.known[pair]
	if !ok {
		is = a == b || s.covers(s.lists[a], s.lists[b])
		s.known[pair] = is
	}
	return is
}

// A packed row has the numbers of its lists.
type packed struct{ proto, src, dst, ports int }

// A law says when one of two rows is not needed beside the other one.
type law struct {
	applies func(x, y *packed) bool
	merge   func(x, y *packed) // gives the first one what the second one has; nothing, if one of both goes as it is
	first   bool               // the first one goes, otherwise the second one
}

// A press squeezes rows. It remembers which law is the first one for each two of them, since a step changes this only for those with the row that it changes.
type press struct {
	sets  shelf[api.Range]
	ports shelf[api.Ports]
	laws  []law
	rows  []packed
	gone  []bool
	first [][]int // by the numbers of two rows, the lesser one first; as many as there are laws: none applies
}

// newPress has the rows of filters that are right.
func newPress(l []api.Filter) *press {
	p := &press{gone: make([]bool, len(l)), first: make([][]int, len(l))}
	p.sets = shelf[api.Range]{least: span.Join, covers: span.Covers, known: map[[2]int]bool{}}
	p.ports = shelf[api.Ports]{least: ports.Join, covers: ports.Covers, known: map[[2]int]bool{}}
	p.laws = p.makeLaws()
	for i, f := range l {
		r := rowOf(f)
		p.rows = append(p.rows, packed{proto: r.proto, src: p.sets.put(r.src), dst: p.sets.put(r.dst), ports: p.ports.put(r.ports)})
		p.first[i] = make([]int, len(l))
		for k := range i {
			p.look(k, i)
		}
	}
	return p
}

// makeLaws are the laws by which rows are squeezed, in their order.
func (p *press) makeLaws() []law {
	liesIn := func(x, y *packed) bool {
		return takes(y.proto, x.proto) && p.ports.has(y.ports, x.ports) && p.sets.has(y.dst, x.dst) && p.sets.has(y.src, x.src)
	}
	return []law{
		{applies: func(x, y *packed) bool { return liesIn(y, x) }},
		{applies: liesIn, first: true},
		{
			applies: func(x, y *packed) bool { return x.proto == y.proto && x.dst == y.dst && x.ports == y.ports },
			merge:   func(x, y *packed) { x.src = p.sets.join(x.src, y.src) },
		},
		{
			applies: func(x, y *packed) bool { return x.proto == y.proto && x.src == y.src && x.ports == y.ports },
			merge:   func(x, y *packed) { x.dst = p.sets.join(x.dst, y.dst) },
		},
		{
			applies: func(x, y *packed) bool { return x.proto == y.proto && x.src == y.src && x.dst == y.dst },
			merge:   func(x, y *packed) { x.ports = p.ports.join(x.ports, y.ports) },
		},
	}
}

// look finds the first law for two rows.
func (p *press) look(i, k int) {
	n := slices.IndexFunc(p.laws, func(x law) bool { return x.applies(&p.rows[i], &p.rows[k]) })
	if n < 0 {
		n = len(p.laws)
	}
	p.first[i][k] = n
}

// pairs goes through the pairs of rows that are there.
func (p *press) pairs(yield func(i, k int) bool) {
	for i := range p.rows {
		for k := i + 1; k < len(p.rows); k++ {
			if !p.gone[i] && !p.gone[k] && !yield(i, k) {
				return
			}
		}
	}
}

// next is the first law that applies, and the first two rows for which it does; as many as there are laws: none applies.
func (p *press) next() (n, i, k int) {
	n = len(p.laws)
	for x, y := range p.pairs {
		if p.first[x][y] < n {
			n, i, k = p.first[x][y], x, y
		}
	}
	return n, i, k
}

// follow does what a law says of two rows.
func (p *press) follow(x law, i, k int) api.Errno {
	if x.first {
		p.gone[i] = true
		return api.OK
	}
	p.gone[k] = true
	if x.merge == nil {
		return api.OK
	}
	x.merge(&p.rows[i], &p.rows[k])
	for other := range p.rows {
		if other != i && !p.gone[other] {
			p.look(min(i, other), max(i, other))
		}
	}
	_, e := p.filter(i)
	return e
}

// filter is a row as a filter, if no part of it is too long.
func (p *press) filter(i int) (api.Filter, api.Errno) {
	x := p.rows[i]
	r := row{proto: x.proto, src: p.sets.lists[x.src], dst: p.sets.lists[x.dst], ports: p.ports.lists[x.ports]}
	return r.filter()
}

// squeeze follows the laws until none applies.
func (p *press) squeeze() api.Errno {
	for {
		n, i, k := p.next()
		if n == len(p.laws) {
			return api.OK
		}
		if e := p.follow(p.laws[n], i, k); e != api.OK {
			return e
		}
	}
}

// Squeeze makes rows fewer.
func Squeeze(l []api.Filter) ([]api.Filter, api.Errno) {
	if e := Check(l); e != api.OK {
		return nil, e
	}
	p := newPress(l)
	if e := p.squeeze(); e != api.OK {
		return nil, e
	}
	var out []api.Filter
	for i := range p.rows {
		if !p.gone[i] {
			f, _ := p.filter(i)
			out = append(out, f)
		}
	}
	return out, api.OK
}
