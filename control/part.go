package control

import (
	"slices"

	"holloway/api"
	"holloway/lists"
	"holloway/node"
	"holloway/orders"
	"holloway/posture"
	"holloway/route"
	"holloway/times"
)

// A part of a world tells what there is at a moment, and the next moment at which it can be something else (api.End if there is none).
type part[T any] func(at int) (T, int)

// lasting asks a part only at moments at which it can be something else than before; its moments must not fall.
func lasting[T any](ask part[T]) part[T] {
	var last T
	next := 0
	return func(at int) (T, int) {
		if at >= next {
			last, next = ask(at)
		}
		return last, next
	}
}

// after is the least one of rising moments that is later than another one; api.End if there is none.
func after(moments []int, at int) int {
	i, _ := slices.BinarySearch(moments, at+1)
	if i == len(moments) {
		return api.End
	}
	return min(moments[i], api.End)
}

// nodesOf tells the live nodes.
func nodesOf(b api.Book) part[[]api.Node] {
	d := b.Setting.Directory
	moments := lists.Map(b.Steps, func(s api.Step) int { return s.At })
	return func(at int) ([]api.Node, int) {
		live, _ := node.Nodes(d, b.Steps, b.Setting.Places, at)
		// A step can change a node that is live ahead of it and behind it.
		next := after(moments, at)
		if change, is, _ := node.NextChange(d, b.Steps, at); is {
			next = min(next, change)
		}
		return live, next
	}
}

// A spell is a time in which something is so.
type spell[T any] struct {
	what T
	when api.Window
}

// during tells what is so by some spells, in their order.
func during[T any](l []spell[T]) part[[]T] {
	windows := lists.Map(l, func(s spell[T]) api.Window { return s.when })
	return func(at int) ([]T, int) {
		var out []T
		for _, s := range l {
			if times.Has(s.when, at) {
				out = append(out, s.what)
			}
		}
		return out, times.Next(windows, at)
	}
}

// givenOf tells the facts that are given, in any order, also more than once.
func givenOf(b api.Book) part[[]api.Fact] {
	// Behind all askings each request has the window in which it was given; it is empty if it never was.
	requests, _ := posture.Requests(b.Setting.Access, b.Askings, api.End-1)
	return during(lists.Map(requests, func(q api.Request) spell[api.Fact] {
		return spell[api.Fact]{what: api.Fact{Node: q.Node, Posture: q.Posture}, when: api.Window{From: q.From, To: q.To}}
	}))
}

// leadsOf tells who leads where, in the order of prefixes.
func leadsOf(b api.Book) part[[]api.Lead] {
	told := map[string][]api.Health{}
	for _, h := range b.Health {
		told[h.Node] = append(told[h.Node], h)
	}
	var out []spell[api.Lead]
	for rest := b.Setting.Routers; len(rest) > 0; {
		prefix := rest[0].Prefix
		var health []api.Health
		n := 0
		for ; n < len(rest) && rest[n].Prefix == prefix; n++ {
			health = append(health, told[rest[n].Node]...)
		}
		slices.SortFunc(health, orders.Health)
		turns, _ := route.Turns(rest[:n], health, prefix)
		for _, t := range turns {
			lead := api.Lead{Prefix: prefix, Node: t.Who}
			out = append(out, spell[api.Lead]{what: lead, when: api.Window{From: t.From, To: t.To}})
		}
		rest = rest[n:]
	}
	return during(out)
}
