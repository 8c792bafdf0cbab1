package control

import (
	"cmp"

	"holloway/api"
	"holloway/checks"
	"holloway/netmap"
	"holloway/rule"
)

// without are the keys of the nodes of one list that are not in another one.
func without(nodes, others []api.Node) []string {
	var out []string
	for _, n := range nodes {
		if _, is := nodeOf(others, n.Key); !is {
			out = append(out, n.Key)
		}
	}
	return out
}

// tellsOther says whether a node of two worlds is told other maps, or a map in one of them alone.
func tellsOther(v, w api.World, key string) bool {
	before, noneBefore := netmap.Make(v, key)
	behind, noneBehind := netmap.Make(w, key)
	if noneBefore != api.OK && noneBehind != api.OK {
		return false
	}
	// A map is never the same as none.
	same, _ := netmap.Same(before, behind)
	return !same
}

// toldOther are the keys of the nodes of both of two worlds that are told other maps.
func toldOther(v, w api.World) []string {
	var out []string
	for _, n := range v.Scene.Nodes {
		if _, stays := nodeOf(w.Scene.Nodes, n.Key); stays && tellsOther(v, w, n.Key) {
			out = append(out, n.Key)
		}
	}
	return out
}

// Try says what another setting would do.
func Try(b api.Book, s api.Setting, at int) (api.Trial, api.Errno) {
	if e := cmp.Or(CheckBook(b), CheckSetting(s), checks.Moment(at)); e != api.OK {
		return api.Trial{}, e
	}
	before, inBefore := worldAt(b, at)
	b.Setting = s
	behind, inBehind := worldAt(b, at)
	if e := cmp.Or(inBefore, inBehind); e != api.OK {
		return api.Trial{}, e
	}
	f, differs, e := rule.Differ(before.Scene, behind.Scene)
	if e != api.OK {
		return api.Trial{}, e
	}
	failing, _ := rule.Failures(behind.Scene)
	return api.Trial{
		Come:    without(behind.Scene.Nodes, before.Scene.Nodes),
		Go:      without(before.Scene.Nodes, behind.Scene.Nodes),
		Differs: differs,
		Flow:    f,
		Failing: failing,
		Maps:    toldOther(before, behind),
	}, api.OK
}
