package node_test

import (
	"math"
	"slices"
	"testing"

	"holloway/api"
	"holloway/node"
)

var wrongDirectories = []struct {
	name string
	d    api.Directory
	e    api.Errno
}{
	{"users", api.Directory{Users: keys(api.MaxUsers + 1), Life: 1}, api.ErrLarge},
	{"users, ahead of their names", api.Directory{Users: repeat(api.MaxUsers+1, func(int) string { return "A" })}, api.ErrLarge},
	{"no key", directory("ann Bob", "", 1, false), api.ErrName},
	{"an empty user", api.Directory{Users: []string{""}, Life: 1}, api.ErrName},
	{"a name, ahead of the order of later ones", directory("A c b", "", 1, false), api.ErrName},
	{"order, ahead of a later name", directory("b a A", "", 1, false), api.ErrOrder},
	{"a name, ahead of its order", directory("b A", "", 1, false), api.ErrName},
	{"order of users", directory("bob ann", "", 1, false), api.ErrOrder},
	{"a user twice", directory("ann ann", "", 1, false), api.ErrOrder},
	{"users, ahead of owners", api.Directory{Users: []string{"b", "a"}, Owners: make([]api.Owner, api.MaxOwned+1)}, api.ErrOrder},
	{"owners", api.Directory{Owners: make([]api.Owner, api.MaxOwned+1), Life: 1}, api.ErrLarge},
	{"a tag", directory("ann", "Web=ann", 1, false), api.ErrName},
	{"an empty tag", directory("ann", "=ann", 1, false), api.ErrName},
	{"a tag, ahead of its order", directory("ann", "b= A=", 1, false), api.ErrName},
	{"order of tags", directory("ann", "web= db=", 1, false), api.ErrOrder},
	{"a tag twice", directory("ann", "web= web=", 1, false), api.ErrOrder},
	{"order of tags, ahead of users", directory("ann", "web= db=x", 1, false), api.ErrOrder},
	{"users, ahead of the next tag", directory("ann", "web=x A=", 1, false), api.ErrNone},
	{"no such user", directory("ann", "web=ann,bob", 1, false), api.ErrNone},
	{"no such user, and no key", directory("ann", "web=A", 1, false), api.ErrNone},
	{"order of owners", directory("ann bob", "web=bob,ann", 1, false), api.ErrOrder},
	{"an owner twice", directory("ann bob", "web=ann,ann", 1, false), api.ErrOrder},
	{"no such user, ahead of the order", directory("ann bob", "web=bob,abe", 1, false), api.ErrNone},
	{"the order, ahead of a later user", directory("ann bob", "web=bob,ann,x", 1, false), api.ErrOrder},
	{"owners, ahead of life", directory("ann", "web=x", 0, false), api.ErrNone},
	{"no life", directory("ann", "", 0, false), api.ErrArg},
	{"life below 0", directory("ann", "", -1, false), api.ErrArg},
	{"the least life", directory("", "", math.MinInt, false), api.ErrArg},
	{"a long life", directory("ann", "", api.End+1, true), api.ErrArg},
	{"the longest life", directory("ann", "", math.MaxInt, true), api.ErrArg},
}

// P2.1, Z4
func TestCheckDirectory(t *testing.T) {
	full := api.Directory{Users: keys(api.MaxUsers), Life: 1}
	for _, tag := range keys(api.MaxOwned) {
		full.Owners = append(full.Owners, api.Owner{Tag: tag, Users: slices.Clone(full.Users)})
	}
	for _, d := range []api.Directory{
		full, {Life: 1}, {Life: api.End}, office(7, true), directory("a a- a0 a_ aa "+longKey, "a= a-=a a0= a_=a,aa aa= "+longKey+"="+longKey, 1, false),
	} {
		is(t, "CheckDirectory", node.CheckDirectory(d), api.OK)
	}
	for _, c := range wrongDirectories {
		is(t, c.name, node.CheckDirectory(c.d), c.e)
	}
}

// P2.1: functions with a directory return its error first.
func TestDirectoryFirst(t *testing.T) {
	for _, c := range wrongDirectories {
		in := input{d: c.d, l: log("9 gone A n1", "5 gone ann n1"), node: "A", public: "A", user: "A", at: -1, within: -1, w: window(1, 0), places: []api.Place{{Node: "A"}}}
		for _, f := range calls {
			if f.directory {
				is(t, f.name+": "+c.name, errnoOf(f.f(in)), c.e)
			}
		}
	}
}

// P2.1
func TestOwns(t *testing.T) {
	d := office(1, false)
	for _, c := range []struct {
		user, tag string
		owns      bool
		e         api.Errno
	}{
		{"ann", "web", true, api.OK}, {"ann", "ops", true, api.OK}, {"bob", "ops", true, api.OK}, {"bob", "db", true, api.OK},
		{"ann", "db", false, api.OK}, {"bob", "web", false, api.OK}, {"cid", "ops", false, api.OK}, {"ann", "old", false, api.OK},
		{"ann", "none", false, api.ErrNone}, {"dan", "web", false, api.ErrNone}, {"dan", "none", false, api.ErrNone}, {"A", "web", false, api.ErrNone}, {"", "web", false, api.ErrNone}, {"ann", "", false, api.ErrNone}, {"ann", "A", false, api.ErrNone},
	} {
		is(t, "Owns "+c.user+" "+c.tag, all(node.Owns(d, c.user, c.tag)), all(c.owns, c.e))
	}
}
