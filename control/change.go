package control

import (
	"cmp"
	"slices"

	"holloway/api"
	"holloway/checks"
	"holloway/rule"
	"holloway/times"
	"holloway/values"
)

// Permitted says whether a flow is permitted at a moment.
func Permitted(b api.Book, f api.Flow, at int) (bool, api.Errno) {
	if e := checkAt(b, at); e != api.OK {
		return false, e
	}
	s, e := sceneAt(b, at)
	if e != api.OK {
		return false, e
	}
	return rule.Permits(s, f)
}

// sameWorld says whether two worlds of one book are the same.
func sameWorld(x, y api.World) bool {
	nodes := slices.EqualFunc(x.Scene.Nodes, y.Scene.Nodes, values.SameNode)
	return nodes && slices.Equal(x.Scene.Facts, y.Scene.Facts) && slices.Equal(x.Firsts, y.Firsts)
}

// NextChange is the next moment at which there is another world.
func NextChange(b api.Book, at int) (int, bool, api.Errno) {
	if e := checkAt(b, at); e != api.OK {
		return 0, false, e
	}
	worlds := worldsOf(b)
	before, next, e := worlds(at)
	for e == api.OK && next < api.End {
		now := next
		var w api.World
		w, next, e = worlds(now)
		if e == api.OK && !sameWorld(before, w) {
			return now, true, api.OK
		}
	}
	return 0, false, e
}

// near is the part of a scene on which it depends whether a flow is permitted: the nodes at its ends.
func near(s api.Scene, f api.Flow) api.Scene {
	var ends []api.Node
	for _, n := range s.Nodes {
		if slices.Contains(n.Addrs, f.From) || slices.Contains(n.Addrs, f.To) {
			ends = append(ends, n)
		}
	}
	return api.Scene{Nodes: ends, Policy: s.Policy, Facts: factsOf(s.Facts, ends)}
}

// When are the windows in which a flow is permitted.
func When(b api.Book, f api.Flow, w api.Window) ([]api.Window, api.Errno) {
	if e := cmp.Or(CheckBook(b), checks.Flow(f), checks.Window(w)); e != api.OK {
		return nil, e
	}
	scenes := scenesOf(b)
	var out []api.Window
	for at := w.From; at < w.To; {
		s, next, e := scenes(at)
		if e != api.OK {
			return nil, e
		}
		if permitted, _ := rule.Permits(near(s, f), f); permitted {
			out = append(out, api.Window{From: at, To: min(next, w.To)})
		}
		at = next
	}
	return times.Join(out), api.OK
}
