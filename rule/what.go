package rule

import (
	"holloway/addr"
	"holloway/api"
	"holloway/notation"
)

// A form is the word of a kind of whats, and what it uses.
type form struct {
	word            string
	hasName, hasNet bool
}

// forms are those of the kinds, from WhatAll on.
var forms = [...]form{
	{"*", false, false},
	{"user", true, false},
	{"group", true, false},
	{"tag", true, false},
	{"node", true, false},
	{"host", true, false},
	{"net", false, true},
	{"member", false, false},
	{"tagged", false, false},
	{"self", false, false},
}

// whats are all that the grants of a policy name.
func whats(p api.Policy) []api.What {
	var out []api.What
	for _, g := range p.Grants {
		out = append(out, g.Src...)
		for _, t := range g.Dst {
			out = append(out, t.What)
		}
	}
	return out
}

func groupWhat(name string) api.What { return api.What{Kind: api.WhatGroup, Name: name} }

func hostWhat(name string) api.What { return api.What{Kind: api.WhatHost, Name: name} }

// defined are the whats that name a group or a host of a policy.
func defined(p api.Policy) map[api.What]bool {
	out := map[api.What]bool{}
	for _, g := range p.Groups {
		out[groupWhat(g.Name)] = true
	}
	for _, h := range p.Hosts {
		out[hostWhat(h.Name)] = true
	}
	return out
}

// checkWhat is what is wrong with a what; of groups and hosts there are those that are known.
func checkWhat(w api.What, known map[api.What]bool) api.Errno {
	if w.Kind < 1 || w.Kind > len(forms) {
		return api.ErrKind
	}
	f := forms[w.Kind-1]
	if !f.hasName && w.Name != "" || !f.hasNet && w.Net != (api.Prefix{}) {
		return api.ErrForm
	}
	if f.hasName && !notation.IsKey(w.Name) {
		return api.ErrName
	}
	if (w.Kind == api.WhatGroup || w.Kind == api.WhatHost) && !known[w] {
		return api.ErrNone
	}
	if f.hasNet {
		return addr.CheckPrefix(w.Net)
	}
	return api.OK
}
