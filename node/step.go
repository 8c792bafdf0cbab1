package node

import (
	"cmp"
	"slices"

	"holloway/api"
	"holloway/notation"
	"holloway/orders"
	"holloway/times"
)

const maxNo = 1_000_000

// What a kind of steps does with a column.
const (
	unused   = '.'
	optional = '?'
)

// A form is the word of a kind, and what it does with each column (+ uses it).
type form struct{ word, cells string }

// forms are those of the kinds, from StepKey on.
var forms = [...]form{
	{"key", "+.+..++++"},
	{"revoke", "+.+......"},
	{"join", "?+?++...."},
	{"approve", "++......."},
	{"renew", "++.+....."},
	{"name", "++..+...."},
	{"tag", "++...+..."},
	{"expire", "++......."},
	{"gone", "++......."},
}

// cellsOf is what a kind that there is does with each column.
func cellsOf(kind int) string { return forms[kind-1].cells }

// checkStep is what is wrong with the form of a step.
func checkStep(table []column, s *api.Step) api.Errno {
	if !times.IsMoment(s.At) {
		return api.ErrArg
	}
	if !notation.IsKey(s.Server) {
		return api.ErrName
	}
	if s.No < 1 || s.No > maxNo {
		return api.ErrArg
	}
	if s.Kind < 1 || s.Kind > len(forms) {
		return api.ErrKind
	}
	return checkCells(table, s)
}

// checkCells is what is wrong with the columns of a step: with those that it uses, then with the others.
func checkCells(table []column, s *api.Step) api.Errno {
	cells := cellsOf(s.Kind)
	for i, c := range table {
		if cells[i] == unused || cells[i] == optional && c.zero(s) {
			continue
		}
		if e := c.check(s); e != api.OK {
			return e
		}
	}
	for i, c := range table {
		if cells[i] == unused && !c.zero(s) {
			return api.ErrForm
		}
	}
	return api.OK
}

// origin is who has written a step down, as which number: no two steps have the same one.
type origin struct {
	server string
	no     int
}

func originOf(s api.Step) origin { return origin{server: s.Server, no: s.No} }

// Check validates a log.
func Check(l []api.Step) api.Errno {
	if len(l) > api.MaxSteps {
		return api.ErrLarge
	}
	table := columns()
	known := make(map[origin]bool, len(l))
	for i, s := range l {
		if e := checkStep(table, &l[i]); e != api.OK {
			return e
		}
		if i > 0 && orders.Steps(s, l[i-1]) <= 0 {
			return api.ErrOrder
		}
		if known[originOf(s)] {
			return api.ErrTwice
		}
		known[originOf(s)] = true
	}
	return api.OK
}

// checkNext is what is wrong with a step behind a log that is right.
func checkNext(l []api.Step, s api.Step) api.Errno {
	if e := checkStep(columns(), &s); e != api.OK {
		return e
	}
	if len(l) > 0 && orders.Steps(s, l[len(l)-1]) <= 0 {
		return api.ErrOrder
	}
	if slices.ContainsFunc(l, func(x api.Step) bool { return originOf(x) == originOf(s) }) {
		return api.ErrTwice
	}
	return api.OK
}

// Merge are the steps of two logs.
func Merge(a, b []api.Step) ([]api.Step, api.Errno) {
	if e := cmp.Or(Check(a), Check(b)); e != api.OK {
		return nil, e
	}
	table := columns()
	all := slices.Concat(a, b)
	slices.SortFunc(all, orders.Steps)
	known := make(map[origin]api.Step, len(all))
	var out []api.Step
	for _, s := range all {
		// Two right steps are equal just if their texts are.
		if x, ok := known[originOf(s)]; ok && textOf(table, &x) != textOf(table, &s) {
			return nil, api.ErrConflict
		} else if ok {
			continue
		}
		known[originOf(s)] = s
		s.Tags = slices.Clone(s.Tags)
		out = append(out, s)
	}
	if len(out) > api.MaxSteps {
		return nil, api.ErrLarge
	}
	return out, api.OK
}
