package node

import (
	"cmp"
	"slices"
	"strings"

	"holloway/api"
	"holloway/checks"
	"holloway/times"
)

// A machine is a node with what it was.
type machine struct {
	api.Machine
	gone bool
	live []api.Window // the times in which it is live, rising and apart
	held []api.Held   // the public keys that it had
}

// isLive says whether a node is live at a moment, if no step comes up to then.
func (m *machine) isLive(at int) bool { return !m.gone && m.Approved && at < m.Expires }

// mark writes down from when on a node is live, or is not, behind a step at a moment. What an earlier step at this moment led to was never so for a second.
func (m *machine) mark(at int) {
	n := len(m.live)
	if n > 0 && m.live[n-1].To > at {
		m.live[n-1].To = at
	}
	if n > 0 && m.live[n-1].From == at {
		n--
		m.live = m.live[:n]
	}
	if !m.isLive(at) {
		return
	}
	if n > 0 && m.live[n-1].To == at {
		m.live[n-1].To = m.Expires
		return
	}
	m.live = append(m.live, api.Window{From: at, To: m.Expires})
}

// hold gives a node a public key from a moment on.
func (m *machine) hold(public string, at int) {
	m.drop(at)
	m.Public = public
	m.held = append(m.held, api.Held{Public: public, From: at, To: api.End})
}

// drop ends the time of the last public key.
func (m *machine) drop(at int) {
	n := len(m.held)
	if n == 0 {
		return
	}
	m.held[n-1].To = at
	if m.held[n-1].From == at {
		m.held = m.held[:n-1]
	}
}

// copied is what a node is, in new memory.
func (m *machine) copied() api.Machine {
	out := m.Machine
	out.Tags = slices.Clone(m.Tags)
	return out
}

// chosen are the nodes that are there and that keep wants, by their keys.
func (n *network) chosen(keep func(m *machine) bool) []*machine {
	var out []*machine
	for _, m := range n.publics {
		if keep(m) {
			out = append(out, m)
		}
	}
	slices.SortFunc(out, func(x, y *machine) int { return strings.Compare(x.Node, y.Node) })
	return out
}

// liveAt are the live nodes at a moment, by their keys.
func (n *network) liveAt(at int) []*machine {
	return n.chosen(func(m *machine) bool { return m.isLive(at) })
}

// keysOf are the keys of nodes.
func keysOf(l []*machine) []string {
	var out []string
	for _, m := range l {
		out = append(out, m.Node)
	}
	return out
}

// networkAt is the network at a moment; ahead is an error that comes ahead of that of the moment.
func networkAt(d api.Directory, l []api.Step, ahead api.Errno, at int) (*network, api.Errno) {
	if e := cmp.Or(checkLog(d, l), ahead, checks.Moment(at)); e != api.OK {
		return nil, e
	}
	return followed(d, l, at), api.OK
}

// Machines are the nodes that are there at a moment.
func Machines(d api.Directory, l []api.Step, at int) ([]api.Machine, api.Errno) {
	n, e := networkAt(d, l, api.OK, at)
	if e != api.OK {
		return nil, e
	}
	var out []api.Machine
	for _, m := range n.chosen(func(*machine) bool { return true }) {
		out = append(out, m.copied())
	}
	return out, api.OK
}

// StateOf is a node at a moment.
func StateOf(d api.Directory, l []api.Step, node string, at int) (api.Machine, bool, api.Errno) {
	n, e := networkAt(d, l, checks.Key(node), at)
	if e != api.OK {
		return api.Machine{}, false, e
	}
	m := n.machines[node]
	if m == nil || m.gone {
		return api.Machine{}, false, api.OK
	}
	return m.copied(), true, api.OK
}

// Joins are the keys for joining at a moment.
func Joins(d api.Directory, l []api.Step, at int) ([]api.Join, api.Errno) {
	n, e := networkAt(d, l, api.OK, at)
	if e != api.OK {
		return nil, e
	}
	var out []api.Join
	for _, k := range n.joins {
		join := k.Join
		join.Tags = slices.Clone(k.Tags)
		if !k.revoked && at < k.Until {
			join.Left = k.uses
		}
		out = append(out, join)
	}
	slices.SortFunc(out, func(x, y api.Join) int { return strings.Compare(x.Key, y.Key) })
	return out, api.OK
}

// Live are the live nodes at a moment.
func Live(d api.Directory, l []api.Step, at int) ([]string, api.Errno) {
	n, e := networkAt(d, l, api.OK, at)
	if e != api.OK {
		return nil, e
	}
	return keysOf(n.liveAt(at)), api.OK
}

// Ending are the live nodes that end soon.
func Ending(d api.Directory, l []api.Step, at, within int) ([]string, api.Errno) {
	n, e := networkAt(d, l, api.OK, at)
	if e = cmp.Or(e, checks.Number(within, 0, api.End)); e != api.OK {
		return nil, e
	}
	ending := n.chosen(func(m *machine) bool { return m.isLive(at) && m.Expires <= at+within })
	slices.SortStableFunc(ending, func(x, y *machine) int { return cmp.Compare(x.Expires, y.Expires) })
	return keysOf(ending), api.OK
}

// NextChange is the next moment at which there are other live nodes.
func NextChange(d api.Directory, l []api.Step, at int) (int, bool, api.Errno) {
	if e := cmp.Or(checkLog(d, l), checks.Moment(at)); e != api.OK {
		return 0, false, e
	}
	next := api.End
	for _, m := range followed(d, l, api.End).machines {
		next = min(next, times.Next(m.live, at))
	}
	if next == api.End {
		return 0, false, api.OK
	}
	return next, true, api.OK
}

// LiveTime is for how long a node is live.
func LiveTime(d api.Directory, l []api.Step, node string, w api.Window) (int, api.Errno) {
	if e := cmp.Or(checkLog(d, l), checks.Key(node), checks.Window(w)); e != api.OK {
		return 0, e
	}
	m := followed(d, l, api.End).machines[node]
	if m == nil {
		return 0, api.OK
	}
	return times.Within(m.live, w), api.OK
}
