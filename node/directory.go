// Package node says which machines there are, by what servers have written down.
package node

import (
	"cmp"
	"slices"
	"strings"

	"holloway/api"
	"holloway/checks"
)

// CheckDirectory validates a directory.
func CheckDirectory(d api.Directory) api.Errno {
	if len(d.Users) > api.MaxUsers {
		return api.ErrLarge
	}
	if e := checks.Keys(d.Users); e != api.OK {
		return e
	}
	if e := checkOwners(d.Owners, mapOf(d.Users)); e != api.OK {
		return e
	}
	if d.Life < 1 || d.Life > api.End {
		return api.ErrArg
	}
	return api.OK
}

// checkOwners validates the owners of tags.
func checkOwners(l []api.Owner, users map[string]bool) api.Errno {
	key := func(o api.Owner) api.Errno { return checks.Key(o.Tag) }
	byTag := func(x, y api.Owner) int { return strings.Compare(x.Tag, y.Tag) }
	known := func(user string) api.Errno { return checks.Need(users[user], api.ErrNone) }
	return checks.Rising(l, api.MaxOwned, key, byTag, func(o api.Owner) api.Errno {
		return checks.Rising(o.Users, len(o.Users), known, strings.Compare)
	})
}

// mapOf has the strings of a list.
func mapOf(l []string) map[string]bool {
	out := make(map[string]bool, len(l))
	for _, s := range l {
		out[s] = true
	}
	return out
}

// checkUser is what is wrong with a user who must be one of a directory.
func checkUser(d api.Directory, user string) api.Errno {
	return checks.Need(slices.Contains(d.Users, user), api.ErrNone)
}

// Owns says whether a user owns a tag.
func Owns(d api.Directory, user, tag string) (bool, api.Errno) {
	if e := cmp.Or(CheckDirectory(d), checkUser(d, user)); e != api.OK {
		return false, e
	}
	for _, o := range d.Owners {
		if o.Tag == tag {
			return slices.Contains(o.Users, user), api.OK
		}
	}
	return false, api.ErrNone
}
