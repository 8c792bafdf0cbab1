package addr

import (
	"cmp"

	"holloway/api"
	"holloway/notation"
	"holloway/span"
)

// CheckTable validates a table.
func CheckTable(t []api.Entry) api.Errno {
	if len(t) > api.MaxTable {
		return api.ErrLarge
	}
	for i, x := range t {
		if e := CheckPrefix(x.Prefix); e != api.OK {
			return e
		}
		if !notation.IsKey(x.To) {
			return api.ErrName
		}
		if i > 0 && span.ComparePrefixes(x.Prefix, t[i-1].Prefix) <= 0 {
			return api.ErrOrder
		}
	}
	return api.OK
}

// longest is where the entry with the most bits goes, of those whose prefixes fit: a key, or nothing if none does.
func longest(t []api.Entry, fits func(p api.Prefix) bool) string {
	to, most := "", -1
	for _, x := range t {
		if x.Prefix.Bits > most && fits(x.Prefix) {
			to, most = x.To, x.Prefix.Bits
		}
	}
	return to
}

// lookup is where an address goes: a key, or nothing.
func lookup(t []api.Entry, a api.Addr) string {
	return longest(t, func(p api.Prefix) bool { return contains(p, a) })
}

// Lookup is where an address goes.
func Lookup(t []api.Entry, a api.Addr) (string, bool, api.Errno) {
	if e := cmp.Or(CheckTable(t), CheckAddr(a)); e != api.OK {
		return "", false, e
	}
	to := lookup(t, a)
	return to, to != "", api.OK
}

// Squeeze leaves out entries that say nothing new.
func Squeeze(t []api.Entry) ([]api.Entry, api.Errno) {
	if e := CheckTable(t); e != api.OK {
		return nil, e
	}
	var out []api.Entry
	for _, x := range t {
		around := longest(t, func(p api.Prefix) bool { return p != x.Prefix && inside(x.Prefix, p) })
		if around != x.To {
			out = append(out, x)
		}
	}
	return out, api.OK
}

// Differ is the least address for which two tables say different things.
func Differ(t, u []api.Entry) (api.Addr, bool, api.Errno) {
	if e := cmp.Or(CheckTable(t), CheckTable(u)); e != api.OK {
		return api.Addr{}, false, e
	}
	// What a table says changes only where one of its prefixes begins, or behind its end.
	for _, a := range span.Cuts(reaches(t), reaches(u)) {
		if lookup(t, a) != lookup(u, a) {
			return a, true, api.OK
		}
	}
	return api.Addr{}, false, api.OK
}

// reaches are the ranges of the prefixes of a table.
func reaches(t []api.Entry) []api.Range {
	var out []api.Range
	for _, x := range t {
		out = append(out, span.RangeOf(x.Prefix))
	}
	return out
}
