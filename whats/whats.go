// Package whats looks up whom the rules of a scene name.
package whats

import (
	"slices"

	"holloway/api"
	"holloway/rule"
	"holloway/span"
)

// Addresses looks up the addresses of the whats of a scene that is right, as least lists.
func Addresses(s api.Scene) func(w api.What) []api.Range {
	return Once(func(w api.What) []api.Range {
		l, _ := rule.Addresses(neededFor(s, w), w)
		return span.Of(l)
	})
}

// neededFor is the part of a scene on which the addresses of a what depend: all that is there is checked anew for each what.
func neededFor(s api.Scene, w api.What) api.Scene {
	switch w.Kind {
	case api.WhatAll, api.WhatNet, api.WhatSelf:
		return api.Scene{}
	case api.WhatHost:
		return api.Scene{Policy: api.Policy{Hosts: s.Policy.Hosts}}
	case api.WhatGroup:
		return api.Scene{Nodes: s.Nodes, Policy: api.Policy{Groups: s.Policy.Groups}}
	case api.WhatUser:
		return those(s.Nodes, func(n api.Node) bool { return n.User == w.Name })
	case api.WhatTag:
		return those(s.Nodes, func(n api.Node) bool { return slices.Contains(n.Tags, w.Name) })
	case api.WhatNode:
		return those(s.Nodes, func(n api.Node) bool { return n.Key == w.Name })
	}
	return api.Scene{Nodes: s.Nodes}
}

// those is a scene of those of some nodes that a what names.
func those(nodes []api.Node, names func(n api.Node) bool) api.Scene {
	var out []api.Node
	for _, n := range nodes {
		if names(n) {
			out = append(out, n)
		}
	}
	return api.Scene{Nodes: out}
}

// Once asks a function only once for each what.
func Once(ask func(w api.What) []api.Range) func(w api.What) []api.Range {
	known := map[api.What][]api.Range{}
	return func(w api.What) []api.Range {
		l, ok := known[w]
		if !ok {
			l = ask(w)
			known[w] = l
		}
		return l
	}
}
