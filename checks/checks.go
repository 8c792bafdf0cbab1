// Package checks has the checks of parts of values that the chapters share.
package checks

import (
	"cmp"
	"slices"
	"strings"

	"holloway/addr"
	"holloway/api"
	"holloway/notation"
	"holloway/ports"
	"holloway/times"
)

// Need is an error if what must be so is not.
func Need(so bool, e api.Errno) api.Errno {
	if so {
		return api.OK
	}
	return e
}

// Key is what is wrong with a key.
func Key(s string) api.Errno { return Need(notation.IsKey(s), api.ErrName) }

// Suffix is what is wrong with a suffix of names.
func Suffix(s string) api.Errno {
	if len(s) > api.MaxSuffix {
		return api.ErrForm
	}
	for part := range strings.SplitSeq(s, ".") {
		if !notation.IsKey(part) {
			return api.ErrForm
		}
	}
	return api.OK
}

// Number is what is wrong with a number that must be from one to another one.
func Number(n, least, most int) api.Errno { return Need(least <= n && n <= most, api.ErrArg) }

// Moment is what is wrong with a moment.
func Moment(at int) api.Errno { return Need(times.IsMoment(at), api.ErrArg) }

// Window is what is wrong with a window of moments.
func Window(w api.Window) api.Errno { return Need(times.IsWindow(w), api.ErrArg) }

// Onward is what is wrong with the moment of a call that must not be ahead of another moment.
func Onward(at, now int) api.Errno { return cmp.Or(Moment(at), Need(at >= now, api.ErrOrder)) }

// Each is what is wrong with a list of at most so many parts, of which each one is right.
func Each[T any](l []T, most int, check func(x T) api.Errno) api.Errno {
	if len(l) > most {
		return api.ErrLarge
	}
	for _, x := range l {
		if e := check(x); e != api.OK {
			return e
		}
	}
	return api.OK
}

// Rising is what is wrong with a list of at most so many parts, of which each one is right, and comes behind the one before; what rest says is asked behind that.
func Rising[T any](l []T, most int, check func(x T) api.Errno, compare func(x, y T) int, rest ...func(x T) api.Errno) api.Errno {
	if len(l) > most {
		return api.ErrLarge
	}
	for i, x := range l {
		if e := check(x); e != api.OK {
			return e
		}
		if i > 0 && compare(x, l[i-1]) <= 0 {
			return api.ErrOrder
		}
		for _, check := range rest {
			if e := check(x); e != api.OK {
				return e
			}
		}
	}
	return api.OK
}

// Keys is what is wrong with a list of keys, which rise.
func Keys(l []string) api.Errno { return Rising(l, len(l), Key, strings.Compare) }

// Addrs is what is wrong with the addresses of a node; it notes in taken which ones there are, and the error of one that is there already is again.
func Addrs(l []api.Addr, taken map[api.Addr]bool, again api.Errno) api.Errno {
	if len(l) > api.MaxAddrs {
		return api.ErrLarge
	}
	for _, a := range l {
		if e := addr.CheckAddr(a); e != api.OK {
			return e
		}
		if taken[a] {
			return again
		}
		taken[a] = true
	}
	return api.OK
}

// Routes is what is wrong with the routes of a node.
func Routes(l []api.Prefix) api.Errno {
	if len(l) > api.MaxRoutes {
		return api.ErrLarge
	}
	for i, p := range l {
		if e := addr.CheckPrefix(p); e != api.OK {
			return e
		}
		if slices.Contains(l[:i], p) {
			return api.ErrTwice
		}
	}
	return api.OK
}

// Places is what is wrong with the places of nodes.
func Places(l []api.Place) api.Errno {
	key := func(p api.Place) api.Errno { return Key(p.Node) }
	byNode := func(x, y api.Place) int { return strings.Compare(x.Node, y.Node) }
	taken := map[api.Addr]bool{}
	return Rising(l, api.MaxNodes, key, byNode, func(p api.Place) api.Errno {
		return cmp.Or(Addrs(p.Addrs, taken, api.ErrConflict), Routes(p.Routes))
	})
}

// Flow is what is wrong with a flow.
func Flow(f api.Flow) api.Errno {
	if f.Proto < 1 || f.Proto > api.MaxProto {
		return api.ErrArg
	}
	if e := cmp.Or(addr.CheckAddr(f.From), addr.CheckAddr(f.To)); e != api.OK {
		return e
	}
	if f.From.Six != f.To.Six {
		return api.ErrType
	}
	for _, port := range [2]int{f.FromPort, f.ToPort} {
		if port < 0 || port > api.MaxPort || port > 0 && !ports.UsedBy(f.Proto) {
			return api.ErrArg
		}
	}
	return api.OK
}
