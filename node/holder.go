package node

import (
	"cmp"
	"slices"

	"holloway/api"
	"holloway/checks"
	"holloway/steps"
)

// Keys are the public keys that a node had.
func Keys(d api.Directory, l []api.Step, node string) ([]api.Held, api.Errno) {
	if e := cmp.Or(checkLog(d, l), checks.Key(node)); e != api.OK {
		return nil, e
	}
	m := followed(d, l, api.End).machines[node]
	if m == nil {
		return nil, api.OK
	}
	return m.held, api.OK
}

// NodeOf is the node that has a public key at a moment.
func NodeOf(d api.Directory, l []api.Step, public string, at int) (string, bool, api.Errno) {
	n, e := networkAt(d, l, checks.Need(steps.IsPublic(public), api.ErrName), at)
	if e != api.OK {
		return "", false, e
	}
	m := n.publics[public]
	if m == nil {
		return "", false, api.OK
	}
	return m.Node, true, api.OK
}

// Managed are the nodes that a user manages at a moment.
func Managed(d api.Directory, l []api.Step, user string, at int) ([]string, api.Errno) {
	n, e := networkAt(d, l, checkUser(d, user), at)
	if e != api.OK {
		return nil, e
	}
	return keysOf(n.chosen(func(m *machine) bool { return n.manages(user, m) })), api.OK
}

// Orphans are the nodes that a user alone manages at a moment.
func Orphans(d api.Directory, l []api.Step, user string, at int) ([]string, api.Errno) {
	n, e := networkAt(d, l, checkUser(d, user), at)
	if e != api.OK {
		return nil, e
	}
	alone := func(m *machine) bool {
		return !slices.ContainsFunc(d.Users, func(other string) bool { return n.manages(other, m) != (other == user) })
	}
	return keysOf(n.chosen(alone)), api.OK
}
