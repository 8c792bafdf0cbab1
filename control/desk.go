package control

import (
	"slices"

	"holloway/api"
	"holloway/posture"
)

// A desk knows which postures nodes meet by their claims. It is asked at moments that do not fall.
type desk struct {
	book    api.Book
	moments map[string][]int      // by nodes: at which what they meet can change, rising
	next    map[string]int        // the first one of these behind the moment at which a node was looked at
	facts   map[string][]api.Fact // what it met then
}

func deskOf(b api.Book) *desk {
	d := &desk{book: b, moments: map[string][]int{}, next: map[string]int{}, facts: map[string][]api.Fact{}}
	for _, x := range b.Claims {
		d.moments[x.Node] = append(d.moments[x.Node], x.At, x.At+b.Setting.Fresh)
	}
	for _, l := range d.moments {
		slices.Sort(l)
	}
	return d
}

// met are the facts of the postures that nodes meet, and the next moment at which they can be others.
func (d *desk) met(nodes []api.Node, at int) ([]api.Fact, int, api.Errno) {
	if e := d.look(nodes, at); e != api.OK {
		return nil, 0, e
	}
	var out []api.Fact
	next := api.End
	for _, n := range nodes {
		out = append(out, d.facts[n.Key]...)
		next = min(next, d.next[n.Key])
	}
	return out, next, api.OK
}

// look looks at those of some nodes for which something can have changed.
func (d *desk) look(nodes []api.Node, at int) api.Errno {
	var keys []string
	for _, n := range nodes {
		if at >= d.next[n.Key] {
			keys = append(keys, n.Key)
			d.next[n.Key] = after(d.moments[n.Key], at)
			d.facts[n.Key] = nil
		}
	}
	if len(keys) == 0 {
		return api.OK
	}
	facts, e := posture.Facts(d.book.Setting.Postures, d.book.Claims, d.book.Setting.Fresh, keys, at)
	for _, f := range facts {
		d.facts[f.Node] = append(d.facts[f.Node], f)
	}
	return e
}
