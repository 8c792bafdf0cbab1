package node

import (
	"cmp"
	"slices"

	"holloway/api"
	"holloway/orders"
	"holloway/steps"
)

// origin is who has written a step down, as which number: no two steps have the same one.
type origin struct {
	server string
	no     int
}

func originOf(s api.Step) origin { return origin{server: s.Server, no: s.No} }

// Check validates a log.
func Check(l []api.Step) api.Errno {
	if len(l) > api.MaxSteps {
		return api.ErrLarge
	}
	table := steps.Columns()
	known := make(map[origin]bool, len(l))
	for i, s := range l {
		if e := table.Check(&l[i]); e != api.OK {
			return e
		}
		if i > 0 && orders.Steps(s, l[i-1]) <= 0 {
			return api.ErrOrder
		}
		if known[originOf(s)] {
			return api.ErrTwice
		}
		known[originOf(s)] = true
	}
	return api.OK
}

// checkNext is what is wrong with a step behind a log that is right.
func checkNext(l []api.Step, s api.Step) api.Errno {
	if e := steps.Columns().Check(&s); e != api.OK {
		return e
	}
	if len(l) > 0 && orders.Steps(s, l[len(l)-1]) <= 0 {
		return api.ErrOrder
	}
	if slices.ContainsFunc(l, func(x api.Step) bool { return originOf(x) == originOf(s) }) {
		return api.ErrTwice
	}
	return api.OK
}

// Merge are the steps of two logs.
func Merge(a, b []api.Step) ([]api.Step, api.Errno) {
	if e := cmp.Or(Check(a), Check(b)); e != api.OK {
		return nil, e
	}
	table := steps.Columns()
	all := slices.Concat(a, b)
	slices.SortFunc(all, orders.Steps)
	known := make(map[origin]api.Step, len(all))
	var out []api.Step
	for _, s := range all {
		// Two right steps are equal just if their texts are.
		if x, ok := known[originOf(s)]; ok && lineOf(table, &x) != lineOf(table, &s) {
			return nil, api.ErrConflict
		} else if ok {
			continue
		}
		known[originOf(s)] = s
		s.Tags = slices.Clone(s.Tags)
		out = append(out, s)
	}
	if len(out) > api.MaxSteps {
		return nil, api.ErrLarge
	}
	return out, api.OK
}
