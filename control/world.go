package control

import (
	"slices"
	"strings"

	"holloway/api"
	"holloway/lists"
	"holloway/orders"
	"holloway/posture"
	"holloway/values"
)

// nodeOf is one of some nodes, by its key, and whether it is there.
func nodeOf(nodes []api.Node, key string) (api.Node, bool) {
	i, is := slices.BinarySearchFunc(nodes, key, func(n api.Node, key string) int { return strings.Compare(n.Key, key) })
	if !is {
		return api.Node{}, false
	}
	return nodes[i], true
}

// factsOf are those of some facts that are facts of some nodes, in order, each once.
func factsOf(facts []api.Fact, nodes []api.Node) []api.Fact {
	var own []api.Fact
	for _, f := range facts {
		if _, is := nodeOf(nodes, f.Node); is {
			own = append(own, f)
		}
	}
	return lists.Gather(own, orders.Facts, func(f, _ api.Fact) api.Fact { return f })
}

// firstsOf are those of some leads whose nodes are there, and have the routes.
func firstsOf(leads []api.Lead, nodes []api.Node) []api.First {
	var out []api.First
	for _, l := range leads {
		n, _ := nodeOf(nodes, l.Node)
		if slices.Contains(n.Routes, l.Prefix) {
			out = append(out, api.First{Prefix: l.Prefix, Node: l.Node})
		}
	}
	return out
}

// scenesOf tells the scene of a book that is right at moments that do not fall, and the next moment at which it can be another one. What it tells shares memory, and is not to be changed.
func scenesOf(b api.Book) func(at int) (api.Scene, int, api.Errno) {
	nodes, claimed, given := lasting(nodesOf(b)), deskOf(b), lasting(givenOf(b))
	return func(at int) (api.Scene, int, api.Errno) {
		live, nextLive := nodes(at)
		met, nextMet, e := claimed.met(live, at)
		if e != api.OK {
			return api.Scene{}, 0, e
		}
		more, nextMore := given(at)
		facts, e := posture.Both(met, factsOf(more, live))
		if e != api.OK {
			return api.Scene{}, 0, e
		}
		s := api.Scene{Nodes: live, Policy: b.Setting.Policy, Facts: facts}
		return s, min(nextLive, nextMet, nextMore), api.OK
	}
}

// worldsOf tells the world of a book in the same way.
func worldsOf(b api.Book) func(at int) (api.World, int, api.Errno) {
	scenes, leads := scenesOf(b), lasting(leadsOf(b))
	return func(at int) (api.World, int, api.Errno) {
		s, nextScene, e := scenes(at)
		if e != api.OK {
			return api.World{}, 0, e
		}
		l, nextLead := leads(at)
		w := api.World{Scene: s, Firsts: firstsOf(l, s.Nodes), Suffix: b.Setting.Suffix}
		return w, min(nextScene, nextLead), api.OK
	}
}

// sceneAt is the scene of a book that is right, at a moment.
func sceneAt(b api.Book, at int) (api.Scene, api.Errno) {
	s, _, e := scenesOf(b)(at)
	return s, e
}

// worldAt is the world of a book that is right, at a moment; it shares memory with the book.
func worldAt(b api.Book, at int) (api.World, api.Errno) {
	w, _, e := worldsOf(b)(at)
	return w, e
}

// WorldAt is the world of a book at a moment.
func WorldAt(b api.Book, at int) (api.World, api.Errno) {
	if e := checkAt(b, at); e != api.OK {
		return api.World{}, e
	}
	w, e := worldAt(b, at)
	if e != api.OK {
		return api.World{}, e
	}
	w.Scene.Policy = values.CopyPolicy(w.Scene.Policy)
	return w, api.OK
}
