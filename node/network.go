package node

import (
	"cmp"
	"slices"

	"holloway/api"
)

// A network is what steps lead to.
type network struct {
	directory api.Directory
	users     map[string]bool
	owners    map[string]map[string]bool // users by tags
	joins     map[string]*joinKey
	machines  map[string]*machine // all that were ever there
	publics   map[string]*machine // those that are there, by their public keys
}

// A joinKey is a key for joining.
type joinKey struct {
	api.Join // but Left
	uses     int
	revoked  bool
}

func newNetwork(d api.Directory) *network {
	n := &network{directory: d, users: mapOf(d.Users), owners: map[string]map[string]bool{}}
	for _, o := range d.Owners {
		n.owners[o.Tag] = mapOf(o.Users)
	}
	n.joins, n.machines, n.publics = map[string]*joinKey{}, map[string]*machine{}, map[string]*machine{}
	return n
}

// follow follows a step, if nothing is against it.
func (n *network) follow(s api.Step) api.Errno {
	e := n.refusal(s)
	if e == api.OK {
		n.apply(s)
	}
	return e
}

// refusal is why a step is refused.
func (n *network) refusal(s api.Step) api.Errno {
	if s.Kind == api.StepJoin {
		return n.refusalOfJoin(s)
	}
	if !n.users[s.By] {
		return api.ErrNone
	}
	switch s.Kind {
	case api.StepKey:
		return n.refusalOfKey(s)
	case api.StepRevoke:
		return n.refusalOfRevoke(s)
	}
	return n.refusalOfChange(s)
}

func (n *network) refusalOfKey(s api.Step) api.Errno {
	if n.joins[s.Join] != nil {
		return api.ErrTwice
	}
	if s.Uses < 1 || s.Uses > api.MaxUses || s.Until <= s.At || s.Until > api.End {
		return api.ErrArg
	}
	return n.refusalOfTags(s)
}

// refusalOfTags is why a user may not give the tags of a step.
func (n *network) refusalOfTags(s api.Step) api.Errno {
	for _, tag := range s.Tags {
		if n.owners[tag] == nil {
			return api.ErrNone
		}
		if !n.owners[tag][s.By] {
			return api.ErrRule
		}
	}
	return api.OK
}

func (n *network) refusalOfRevoke(s api.Step) api.Errno {
	k := n.joins[s.Join]
	switch {
	case k == nil:
		return api.ErrNone
	case k.By != s.By:
		return api.ErrRule
	case k.revoked:
		return api.ErrState
	}
	return api.OK
}

func (n *network) refusalOfJoin(s api.Step) api.Errno {
	if (s.By == "") == (s.Join == "") {
		return api.ErrForm
	}
	if s.By != "" && !n.users[s.By] {
		return api.ErrNone
	}
	if s.Join != "" {
		if e := n.refusalOfUse(s); e != api.OK {
			return e
		}
	}
	switch {
	case n.machines[s.Node] != nil:
		return api.ErrTwice
	case n.publics[s.Public] != nil:
		return api.ErrConflict
	case len(n.publics) >= api.MaxNodes:
		return api.ErrLarge
	}
	return api.OK
}

// refusalOfUse is why a key for joining cannot be used.
func (n *network) refusalOfUse(s api.Step) api.Errno {
	k := n.joins[s.Join]
	switch {
	case k == nil:
		return api.ErrNone
	case k.revoked || s.At >= k.Until:
		return api.ErrState
	case k.uses <= 0:
		return api.ErrFull
	}
	return api.OK
}

// refusalOfChange is why a node is not changed.
func (n *network) refusalOfChange(s api.Step) api.Errno {
	m := n.machines[s.Node]
	if m == nil || m.gone {
		return api.ErrNone
	}
	if s.Kind != api.StepApprove && !n.manages(s.By, m) {
		return api.ErrRule
	}
	switch {
	case s.Kind == api.StepApprove && m.Approved:
		return api.ErrState
	case s.Kind == api.StepRenew && n.publics[s.Public] != nil:
		return api.ErrConflict
	case s.Kind == api.StepName && s.Name == m.Name:
		return api.ErrTwice
	case s.Kind == api.StepTag && len(s.Tags) == 0:
		return api.ErrForm
	case s.Kind == api.StepExpire && m.Expires <= s.At:
		return api.ErrState
	}
	// Only a StepTag has tags.
	return n.refusalOfTags(s)
}

// manages says whether a user manages a node.
func (n *network) manages(user string, m *machine) bool {
	owned := func(tag string) bool { return n.owners[tag][user] }
	return m.User == user || slices.ContainsFunc(m.Tags, owned)
}

// apply follows a step that is not refused.
func (n *network) apply(s api.Step) {
	switch s.Kind {
	case api.StepKey:
		join := api.Join{Key: s.Join, By: s.By, Tags: s.Tags, Until: s.Until, Ready: s.Ready}
		n.joins[s.Join] = &joinKey{Join: join, uses: s.Uses}
	case api.StepRevoke:
		n.joins[s.Join].revoked = true
	case api.StepJoin:
		n.join(s)
	default:
		n.change(n.machines[s.Node], s)
	}
}

// join makes a node.
func (n *network) join(s api.Step) {
	m := &machine{Machine: api.Machine{Node: s.Node, User: s.By, Name: s.Name, Joined: s.At, Approved: !n.directory.Approve}}
	if k := n.joins[s.Join]; k != nil {
		k.uses--
		m.Tags = k.Tags
		m.Approved = m.Approved || k.Ready
		if len(k.Tags) == 0 {
			m.User = k.By
		}
	}
	n.machines[s.Node] = m
	n.renew(m, s)
	m.mark(s.At)
}

// renew gives a node the public key of a step.
func (n *network) renew(m *machine, s api.Step) {
	delete(n.publics, m.Public)
	n.publics[s.Public] = m
	m.hold(s.Public, s.At)
	m.Expires = api.End
	if m.User != "" {
		m.Expires = min(s.At+n.directory.Life, api.End)
	}
}

// change changes a node that is there.
func (n *network) change(m *machine, s api.Step) {
	switch s.Kind {
	case api.StepApprove:
		m.Approved = true
	case api.StepRenew:
		n.renew(m, s)
	case api.StepName:
		m.Name = s.Name
	case api.StepTag:
		m.User, m.Tags, m.Expires = "", s.Tags, api.End
	case api.StepExpire:
		m.Expires = s.At
	case api.StepGone:
		delete(n.publics, m.Public)
		m.gone = true
		m.drop(s.At)
	}
	m.mark(s.At)
}

// checkLog is what is wrong with a directory and a log.
func checkLog(d api.Directory, l []api.Step) api.Errno { return cmp.Or(CheckDirectory(d), Check(l)) }

// followed is the network behind the steps up to a moment.
func followed(d api.Directory, l []api.Step, at int) *network {
	n := newNetwork(d)
	for _, s := range l {
		if s.At > at {
			break
		}
		n.follow(s)
	}
	return n
}

// Refused are the steps that are not followed.
func Refused(d api.Directory, l []api.Step) ([]api.Refusal, api.Errno) {
	if e := checkLog(d, l); e != api.OK {
		return nil, e
	}
	n := newNetwork(d)
	var out []api.Refusal
	for i, s := range l {
		if e := n.follow(s); e != api.OK {
			out = append(out, api.Refusal{Step: i, Why: e})
		}
	}
	return out, api.OK
}

// Why is the error that a step would have behind a log.
func Why(d api.Directory, l []api.Step, s api.Step) (api.Errno, api.Errno) {
	if e := cmp.Or(checkLog(d, l), checkNext(l, s)); e != api.OK {
		return api.OK, e
	}
	return followed(d, l, api.End).refusal(s), api.OK
}
