package name

import (
	"cmp"
	"slices"
	"strings"

	"holloway/addr"
	"holloway/api"
	"holloway/checks"
)

// CheckZone validates a zone.
func CheckZone(z api.Zone) api.Errno {
	if e := CheckDomain(z.Root); e != api.OK {
		return e
	}
	if len(z.Records) > api.MaxRecords {
		return api.ErrLarge
	}
	for i, r := range z.Records {
		if e := checkRecord(r); e != api.OK {
			return e
		}
		if !isUnder(bare(r.Name), z.Root) {
			return api.ErrRule
		}
		if i == 0 {
			continue
		}
		if e := checkPair(z.Records[i-1], r); e != api.OK {
			return e
		}
	}
	return api.OK
}

// checkPair is what is wrong with a record behind another one.
func checkPair(before, r api.Record) api.Errno {
	c := compareRecords(r, before)
	isAlias := r.Kind == api.RecordAlias || before.Kind == api.RecordAlias
	switch {
	case c == 0:
		return api.ErrTwice
	case c < 0:
		return api.ErrOrder
	case isAlias && r.Name == before.Name:
		return api.ErrConflict
	}
	return api.OK
}

// checkCalls is what is wrong with what nodes are called.
func checkCalls(l []api.Called) api.Errno {
	return checks.Rising(l, api.MaxNodes, func(c api.Called) api.Errno {
		return cmp.Or(checks.Key(c.Node), checks.Need(isLabel(c.Label), api.ErrName))
	}, compareCalled)
}

// checkNodes is what is wrong with the keys and addresses of nodes.
func checkNodes(l []api.Node) api.Errno {
	key := func(n api.Node) api.Errno { return checks.Key(n.Key) }
	byKey := func(x, y api.Node) int { return strings.Compare(x.Key, y.Key) }
	return checks.Rising(l, api.MaxNodes, key, byKey, func(n api.Node) api.Errno {
		return checks.Each(n.Addrs, api.MaxAddrs, addr.CheckAddr)
	})
}

// recordsOf are the records of an address of a name: that it has it, and that it is found there, if this is below the root.
func recordsOf(name, root string, a api.Addr, life int) []api.Record {
	r := api.Record{Name: name, Kind: api.RecordA, Addr: a, Life: life}
	if a.Six {
		r.Kind = api.RecordAAAA
	}
	back := api.Record{Name: backOf(a), Kind: api.RecordBack, To: name, Life: life}
	if !isUnder(back.Name, root) {
		return []api.Record{r}
	}
	return []api.Record{r, back}
}

// ZoneOf makes a zone of nodes.
func ZoneOf(root string, life int, l []api.Called, nodes []api.Node) (api.Zone, api.Errno) {
	if e := cmp.Or(CheckDomain(root), checkLife(life), checkCalls(l), checkNodes(nodes)); e != api.OK {
		return api.Zone{}, e
	}
	labels := make(map[string]string, len(l))
	for _, c := range l {
		labels[c.Node] = c.Label
	}
	z := api.Zone{Root: root}
	for _, n := range nodes {
		label, called := labels[n.Key]
		if !called {
			continue
		}
		for _, a := range n.Addrs {
			z.Records = append(z.Records, recordsOf(label+"."+root, root, a, life)...)
		}
	}
	slices.SortFunc(z.Records, compareRecords)
	if e := CheckZone(z); e != api.OK {
		return api.Zone{}, e
	}
	return z, api.OK
}
