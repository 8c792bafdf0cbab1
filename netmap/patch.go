package netmap

import (
	"cmp"
	"slices"
	"strings"

	"holloway/api"
	"holloway/checks"
	"holloway/filter"
	"holloway/values"
)

// byKeys are peers by their keys.
func byKeys(l []api.Peer) map[string]api.Peer {
	out := make(map[string]api.Peer, len(l))
	for _, p := range l {
		out[p.Key] = p
	}
	return out
}

// Between is the patch that makes a map of another one.
func Between(a, b api.Map) (api.Patch, api.Errno) {
	if e := cmp.Or(CheckMap(a), CheckMap(b)); e != api.OK {
		return api.Patch{}, e
	}
	return between(a, b), api.OK
}

// between is Between for maps that are right.
func between(a, b api.Map) api.Patch {
	var p api.Patch
	before, after := byKeys(a.Peers), byKeys(b.Peers)
	for _, x := range a.Peers {
		if _, stays := after[x.Key]; !stays {
			p.Gone = append(p.Gone, x.Key)
		}
	}
	for _, y := range b.Peers {
		if x, was := before[y.Key]; !was || !samePeer(x, y) {
			p.Put = append(p.Put, clonePeer(y))
		}
	}
	if !values.SameNode(a.Self, b.Self) {
		p.HasSelf, p.Self = true, values.CopyNode(b.Self)
	}
	if !sameRows(a.Filters, b.Filters) {
		p.HasFilters, p.Filters = true, cloneRows(b.Filters)
	}
	if a.Suffix != b.Suffix {
		p.HasSuffix, p.Suffix = true, b.Suffix
	}
	return p
}

// CheckPatch validates a patch.
func CheckPatch(p api.Patch) api.Errno {
	e := cmp.Or(checks.Rising(p.Gone, api.MaxPeers, checks.Key, strings.Compare), checkPeers(p.Put, ""))
	if e != api.OK {
		return e
	}
	put := byKeys(p.Put)
	for _, key := range p.Gone {
		if _, both := put[key]; both {
			return api.ErrConflict
		}
	}
	return cmp.Or(
		checkHad(p.HasSelf, checkSelf(p.Self), values.SameNode(p.Self, api.Node{})),
		checkHad(p.HasFilters, filter.Check(p.Filters), len(p.Filters) == 0),
		checkHad(p.HasSuffix, checks.Suffix(p.Suffix), p.Suffix == ""),
	)
}

// checkHad is what is wrong with a part that a patch has or has not, if e is what would be wrong with one that it has.
func checkHad(has bool, e api.Errno, zero bool) api.Errno {
	if has {
		return e
	}
	return checks.Need(zero, api.ErrForm)
}

// joined is one patch for two that are right, in memory of its own.
func joined(p, q api.Patch) api.Patch {
	told := map[string]bool{}
	for _, key := range q.Gone {
		told[key] = true
	}
	for _, x := range q.Put {
		told[x.Key] = true
	}
	gone := slices.DeleteFunc(slices.Clone(p.Gone), func(key string) bool { return told[key] })
	put := slices.DeleteFunc(slices.Clone(p.Put), func(x api.Peer) bool { return told[x.Key] })
	out := q
	out.Gone, out.Put = slices.Concat(gone, q.Gone), clonePeers(slices.Concat(put, q.Put))
	slices.Sort(out.Gone)
	slices.SortFunc(out.Put, byKey)
	if !q.HasSelf {
		out.HasSelf, out.Self = p.HasSelf, p.Self
	}
	if !q.HasFilters {
		out.HasFilters, out.Filters = p.HasFilters, p.Filters
	}
	if !q.HasSuffix {
		out.HasSuffix, out.Suffix = p.HasSuffix, p.Suffix
	}
	out.Self, out.Filters = values.CopyNode(out.Self), cloneRows(out.Filters)
	return out
}

// Join is one patch for two.
func Join(p, q api.Patch) (api.Patch, api.Errno) {
	if e := cmp.Or(CheckPatch(p), CheckPatch(q)); e != api.OK {
		return api.Patch{}, e
	}
	return joined(p, q), api.OK
}

// whole is the patch that has all of a map.
func whole(m api.Map) api.Patch {
	return api.Patch{Put: m.Peers, HasSelf: true, HasFilters: true, HasSuffix: true, Self: m.Self, Filters: m.Filters, Suffix: m.Suffix}
}

// Apply is the map that a patch makes of a map.
func Apply(m api.Map, p api.Patch) (api.Map, api.Errno) {
	if e := cmp.Or(CheckMap(m), CheckPatch(p)); e != api.OK {
		return api.Map{}, e
	}
	before := byKeys(m.Peers)
	for _, key := range p.Gone {
		if _, was := before[key]; !was {
			return api.Map{}, api.ErrNone
		}
	}
	now := joined(whole(m), p)
	out := api.Map{Self: now.Self, Peers: now.Put, Filters: now.Filters, Suffix: now.Suffix}
	if e := CheckMap(out); e != api.OK {
		return api.Map{}, e
	}
	return out, api.OK
}
