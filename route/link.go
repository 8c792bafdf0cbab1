package route

import (
	"cmp"
	"slices"
	"strings"

	"holloway/api"
	"holloway/checks"
)

// CheckLinks validates links.
func CheckLinks(l []api.Link) api.Errno {
	check := func(x api.Link) api.Errno {
		return cmp.Or(checks.Key(x.A), checks.Key(x.B), checks.Need(x.A < x.B, api.ErrOrder), checks.Number(x.Millis, 0, api.MaxMillis))
	}
	return checks.Rising(l, api.MaxLinks, check, func(x, y api.Link) int {
		return cmp.Or(strings.Compare(x.A, y.A), strings.Compare(x.B, y.B))
	})
}

// neighbours are, for each relay, those that are linked with it, by their names, and how long it takes to them. (As the links are in order, those with lesser names come first.)
func neighbours(l []api.Link) map[string][]offer {
	out := map[string][]offer{}
	for _, x := range l {
		out[x.A] = append(out[x.A], offer{who: x.B, millis: x.Millis})
		out[x.B] = append(out[x.B], offer{who: x.A, millis: x.Millis})
	}
	return out
}

// A cost is what a way costs: its milliseconds, and how many steps it has.
type cost struct{ millis, steps int }

func compareCosts(c, d cost) int {
	return cmp.Or(cmp.Compare(c.millis, d.millis), cmp.Compare(c.steps, d.steps))
}

// longer is the cost of a way with one step more.
func (c cost) longer(millis int) cost { return cost{millis: c.millis + millis, steps: c.steps + 1} }

// costsTo has what the best way to a relay costs, for each one from which there is a way.
func costsTo(near map[string][]offer, to string) map[string]cost {
	costs := map[string]cost{to: {}}
	for open := []string{to}; len(open) > 0; {
		best := slices.MinFunc(open, func(x, y string) int { return compareCosts(costs[x], costs[y]) })
		open = slices.DeleteFunc(open, func(x string) bool { return x == best })
		for _, x := range near[best] {
			c := costs[best].longer(x.millis)
			known, ok := costs[x.who]
			if !ok {
				open = append(open, x.who)
			}
			if !ok || compareCosts(c, known) < 0 {
				costs[x.who] = c
			}
		}
	}
	return costs
}

// through is Through for what is right.
func through(l []api.Link, a, b string) ([]string, int, api.Errno) {
	near := neighbours(l)
	costs := costsTo(near, b)
	if _, ok := costs[a]; !ok {
		return nil, 0, api.ErrNone
	}
	way := []string{a}
	for at := a; at != b; {
		at = nextTo(near[at], costs, costs[at])
		way = append(way, at)
	}
	return way, costs[a].millis, api.OK
}

// nextTo is the first of some neighbours with which a best way of this cost goes on: there is one.
func nextTo(near []offer, costs map[string]cost, whole cost) string {
	i := slices.IndexFunc(near, func(x offer) bool { return costs[x.who].longer(x.millis) == whole })
	return near[i].who
}

// Through are the relays from one to another one.
func Through(l []api.Link, a, b string) ([]string, int, api.Errno) {
	if e := cmp.Or(CheckLinks(l), checks.Key(a), checks.Key(b)); e != api.OK {
		return nil, 0, e
	}
	return through(l, a, b)
}
