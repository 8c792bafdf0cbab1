package node_test

import (
	"math/rand"
	"slices"
	"sort"
	"strings"

	"holloway/api"
)

// A world is what steps lead to, told as the document tells it: it keeps only the steps that are followed, and looks all up in them again and again.
type world struct {
	d    api.Directory
	done []api.Step
}

// worldAt is the world behind the steps of a log up to a moment, and what is refused.
func worldAt(d api.Directory, l []api.Step, at int) (*world, []api.Refusal) {
	w := &world{d: d}
	var out []api.Refusal
	for i, s := range l {
		if s.At > at {
			break
		}
		if e := w.refuse(s); e != api.OK {
			out = append(out, api.Refusal{Step: i, Why: e})
		} else {
			w.done = append(w.done, s)
		}
	}
	return w, out
}

func (w *world) isUser(user string) bool { return slices.Contains(w.d.Users, user) }

func (w *world) isTag(tag string) bool {
	return slices.ContainsFunc(w.d.Owners, func(o api.Owner) bool { return o.Tag == tag })
}

func (w *world) owns(user, tag string) bool {
	return slices.ContainsFunc(w.d.Owners, func(o api.Owner) bool { return o.Tag == tag && slices.Contains(o.Users, user) })
}

// find is a step that was followed, of a kind, with this key for joining, or this node.
func (w *world) find(kind int, join, node string) (api.Step, bool) {
	for _, s := range w.done {
		if s.Kind == kind && (join == "" || s.Join == join) && (node == "" || s.Node == node) {
			return s, true
		}
	}
	return api.Step{}, false
}

// used is how often a key for joining was used.
func (w *world) used(join string) int {
	n := 0
	for _, s := range w.done {
		if s.Kind == api.StepJoin && s.Join == join {
			n++
		}
	}
	return n
}

// state is a node as the steps tell it, and whether it is there.
func (w *world) state(node string) (api.Machine, bool) {
	var m api.Machine
	there := false
	for _, s := range w.done {
		if s.Node != node {
			continue
		}
		switch s.Kind {
		case api.StepJoin:
			m, there = api.Machine{Node: node, User: s.By, Name: s.Name, Public: s.Public, Joined: s.At, Approved: !w.d.Approve}, true
			if s.Join != "" {
				k, _ := w.find(api.StepKey, s.Join, "")
				m.Tags = k.Tags
				if len(k.Tags) == 0 {
					m.User = k.By
				}
				if k.Ready {
					m.Approved = true
				}
			}
			m.Expires = w.lasting(m.User, s.At)
		case api.StepApprove:
			m.Approved = true
		case api.StepRenew:
			m.Public, m.Expires = s.Public, w.lasting(m.User, s.At)
		case api.StepName:
			m.Name = s.Name
		case api.StepTag:
			m.Tags, m.User, m.Expires = s.Tags, "", api.End
		case api.StepExpire:
			m.Expires = s.At
		case api.StepGone:
			there = false
		}
	}
	return m, there
}

// lasting is until when a key lasts that a node gets at a moment.
func (w *world) lasting(user string, at int) int {
	if user == "" || at+w.d.Life > api.End {
		return api.End
	}
	return at + w.d.Life
}

// machines are all nodes that are there, by their keys.
func (w *world) machines() []api.Machine {
	var out []api.Machine
	for _, s := range w.done {
		if m, there := w.state(s.Node); there && s.Kind == api.StepJoin {
			out = append(out, m)
		}
	}
	sort.Slice(out, func(i, k int) bool { return out[i].Node < out[k].Node })
	return out
}

func (w *world) isPublic(public string) bool {
	return slices.ContainsFunc(w.machines(), func(m api.Machine) bool { return m.Public == public })
}

func (w *world) manages(user string, m api.Machine) bool {
	return m.User == user || slices.ContainsFunc(m.Tags, func(tag string) bool { return w.owns(user, tag) })
}

// refuse is why a step is refused.
func (w *world) refuse(s api.Step) api.Errno {
	if s.Kind == api.StepJoin {
		return w.refuseJoin(s)
	}
	if !w.isUser(s.By) {
		return api.ErrNone
	}
	k, isKey := w.find(api.StepKey, s.Join, "")
	switch s.Kind {
	case api.StepKey:
		if isKey {
			return api.ErrTwice
		}
		if s.Uses < 1 || s.Uses > 1_000 || s.Until < s.At+1 || s.Until > api.End {
			return api.ErrArg
		}
		return w.refuseTags(s)
	case api.StepRevoke:
		if !isKey {
			return api.ErrNone
		}
		if k.By != s.By {
			return api.ErrRule
		}
		if _, ok := w.find(api.StepRevoke, s.Join, ""); ok {
			return api.ErrState
		}
		return api.OK
	}
	return w.refuseChange(s)
}

func (w *world) refuseTags(s api.Step) api.Errno {
	for _, tag := range s.Tags {
		if !w.isTag(tag) {
			return api.ErrNone
		}
		if !w.owns(s.By, tag) {
			return api.ErrRule
		}
	}
	return api.OK
}

func (w *world) refuseJoin(s api.Step) api.Errno {
	if s.By == "" && s.Join == "" || s.By != "" && s.Join != "" {
		return api.ErrForm
	}
	k, isKey := w.find(api.StepKey, s.Join, "")
	if s.By != "" && !w.isUser(s.By) || s.Join != "" && !isKey {
		return api.ErrNone
	}
	if s.Join != "" {
		if _, revoked := w.find(api.StepRevoke, s.Join, ""); revoked || !(s.At < k.Until) {
			return api.ErrState
		}
		if w.used(s.Join) == k.Uses {
			return api.ErrFull
		}
	}
	if _, ever := w.find(api.StepJoin, "", s.Node); ever {
		return api.ErrTwice
	}
	if w.isPublic(s.Public) {
		return api.ErrConflict
	}
	if len(w.machines()) == 500 {
		return api.ErrLarge
	}
	return api.OK
}

func (w *world) refuseChange(s api.Step) api.Errno {
	m, there := w.state(s.Node)
	if !there {
		return api.ErrNone
	}
	if s.Kind == api.StepApprove {
		if m.Approved {
			return api.ErrState
		}
		return api.OK
	}
	if !w.manages(s.By, m) {
		return api.ErrRule
	}
	switch {
	case s.Kind == api.StepRenew && w.isPublic(s.Public):
		return api.ErrConflict
	case s.Kind == api.StepName && m.Name == s.Name:
		return api.ErrTwice
	case s.Kind == api.StepTag && len(s.Tags) == 0:
		return api.ErrForm
	case s.Kind == api.StepTag:
		return w.refuseTags(s)
	case s.Kind == api.StepExpire && m.Expires <= s.At:
		return api.ErrState
	}
	return api.OK
}

// live are the live nodes at the moment of a world.
func (w *world) live(at int) []string {
	var out []string
	for _, m := range w.machines() {
		if m.Approved && at < m.Expires {
			out = append(out, m.Node)
		}
	}
	return out
}

// joins are the keys for joining at the moment of a world.
func (w *world) joins(at int) []api.Join {
	var out []api.Join
	for _, s := range w.done {
		if s.Kind != api.StepKey {
			continue
		}
		k := api.Join{Key: s.Join, By: s.By, Tags: s.Tags, Until: s.Until, Ready: s.Ready}
		if _, revoked := w.find(api.StepRevoke, s.Join, ""); !revoked && at < s.Until {
			k.Left = s.Uses - w.used(s.Join)
		}
		out = append(out, k)
	}
	sort.Slice(out, func(i, k int) bool { return out[i].Key < out[k].Key })
	return out
}

// held are the public keys that a node had, in the world behind a log.
func (w *world) held(node string) []api.Held {
	var out []api.Held
	for i, s := range w.done {
		if s.Node != node || s.Kind != api.StepJoin && s.Kind != api.StepRenew {
			continue
		}
		to := api.End
		for _, next := range w.done[i+1:] {
			if next.Node == node && (next.Kind == api.StepRenew || next.Kind == api.StepGone) {
				to = next.At
				break
			}
		}
		if to > s.At {
			out = append(out, api.Held{Public: s.Public, From: s.At, To: to})
		}
	}
	return out
}

// chance makes random directories and logs.
type chance struct{ *rand.Rand }

func (r chance) one(l string) string {
	w := words(l)
	return w[r.Intn(len(w))]
}

// some are tags: often none, or those that one user owns.
func (r chance) some() []string {
	switch r.Intn(4) {
	case 0:
		return nil
	case 1:
		return []string{"web"}
	case 2:
		return []string{"ops"}
	}
	var out []string
	for _, tag := range words("db new old ops web") {
		if r.Intn(3) == 0 {
			out = append(out, tag)
		}
	}
	return out
}

// step is a step of a kind.
func (r chance) step(kind, at int) api.Step {
	s := api.Step{At: at, Kind: kind, By: r.one("ann ann bob cid dan")}
	if kind != api.StepKey && kind != api.StepRevoke {
		s.Node = r.one("n1 n2 n3 n4 n5 n6 n7 n8")
	}
	switch kind {
	case api.StepKey:
		s.Join, s.Tags, s.Until, s.Uses, s.Ready = r.one("k1 k2 k3 k4"), r.some(), at+r.Intn(60), r.Intn(4), r.Intn(2) == 0
	case api.StepRevoke:
		s.Join = r.one("k1 k2 k3 k4")
	case api.StepJoin:
		s.Public, s.Name = r.public(), r.one("x y z")
		if r.Intn(2) == 0 {
			s.Join = r.one("k1 k2 k3 k4")
		}
		if s.Join != "" && r.Intn(10) > 0 || r.Intn(10) == 0 {
			s.By = ""
		}
	case api.StepRenew:
		s.Public = r.public()
	case api.StepName:
		s.Name = r.one("x y z")
	case api.StepTag:
		s.Tags = r.some()
	}
	return s
}

func (r chance) public() string { return strings.Repeat(r.one("0 1 2 3 4 5 6 7 8 9 a b"), 1+r.Intn(2)) }

// log is a log whose steps are close together, of some servers.
func (r chance) log() []api.Step {
	kinds := []int{api.StepKey, api.StepJoin, api.StepJoin, api.StepJoin, api.StepRevoke, api.StepApprove, api.StepApprove, api.StepRenew, api.StepRenew, api.StepName, api.StepTag, api.StepExpire, api.StepGone}
	at, n := r.Intn(5), r.Intn(60)
	var out []api.Step
	for i := range n {
		s := r.step(kinds[r.Intn(len(kinds))], at)
		s.Server, s.No = r.one("a b c"), 1+(i*37)%101
		out = append(out, s)
		if r.Intn(2) == 0 {
			at += r.Intn(12)
		}
	}
	return inOrder(out)
}

func (r chance) directory() api.Directory { return office(1+r.Intn(60), r.Intn(2) == 0) }
