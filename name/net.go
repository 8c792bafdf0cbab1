package name

import (
	"cmp"
	"slices"
	"strings"

	"holloway/api"
	"holloway/checks"
)

const maxDots = 15

// checkSuffix is what is wrong with the suffix of a split.
func checkSuffix(s api.Split) api.Errno {
	if s.Suffix == "" {
		return api.OK
	}
	return CheckDomain(s.Suffix)
}

// checkServers is what is wrong with the servers of a split.
func checkServers(s api.Split) api.Errno {
	if len(s.Servers) == 0 {
		return api.ErrNone
	}
	if e := checks.Each(s.Servers, api.MaxServers, checks.Key); e != api.OK {
		return e
	}
	sorted := slices.Sorted(slices.Values(s.Servers))
	return checks.Need(len(slices.Compact(sorted)) == len(s.Servers), api.ErrTwice)
}

func suffixOf(s api.Split) string { return s.Suffix }

// CheckSplits validates splits.
func CheckSplits(l []api.Split) api.Errno {
	bySuffix := func(x, y api.Split) int { return strings.Compare(x.Suffix, y.Suffix) }
	return checks.Rising(l, api.MaxSplits, checkSuffix, bySuffix, checkServers)
}

// Servers are the servers that are asked for a name.
func Servers(l []api.Split, name string) ([]string, bool, api.Errno) {
	if e := cmp.Or(CheckSplits(l), CheckDomain(name)); e != api.OK {
		return nil, false, e
	}
	s, is := longest(l, suffixOf, name)
	return slices.Clone(s.Servers), is, api.OK
}

// checkSearch is what is wrong with how names are tried.
func checkSearch(search []string, dots int) api.Errno {
	return cmp.Or(checks.Each(search, api.MaxSearch, CheckDomain), checks.Number(dots, 0, maxDots))
}

// tried are the names that are tried for a name.
func tried(search []string, dots int, name string) []string {
	var longer []string
	for _, s := range search {
		longer = append(longer, name+"."+s)
	}
	all := append([]string{name}, longer...)
	if strings.Count(name, ".") < dots {
		all = append(longer, name)
	}
	var out []string
	for _, s := range all {
		if len(s) <= api.MaxDomain && !slices.Contains(out, s) {
			out = append(out, s)
		}
	}
	return out
}

// Names are the names that are tried for a name.
func Names(search []string, dots int, name string) ([]string, api.Errno) {
	if e := cmp.Or(checkSearch(search, dots), CheckDomain(name)); e != api.OK {
		return nil, e
	}
	return tried(search, dots, name), api.OK
}

func rootOf(z api.Zone) string { return z.Root }

// checkZones is what is wrong with the zones of a server.
func checkZones(s api.Source) api.Errno {
	byRoot := func(x, y api.Zone) int { return strings.Compare(x.Root, y.Root) }
	return checks.Rising(s.Zones, api.MaxZones, CheckZone, byRoot)
}

// CheckNet validates how names are found.
func CheckNet(n api.Net) api.Errno {
	if e := cmp.Or(checkSearch(n.Search, n.Dots), CheckSplits(n.Splits)); e != api.OK {
		return e
	}
	key := func(s api.Source) api.Errno { return checks.Key(s.Server) }
	byServer := func(x, y api.Source) int { return strings.Compare(x.Server, y.Server) }
	return checks.Rising(n.Sources, api.MaxServers, key, byServer, checkZones)
}

// asked is the first one of the servers of a name that has a zone for it, and this zone, if there is one.
func asked(n api.Net, name string) (string, api.Zone, bool) {
	zones := map[string][]api.Zone{}
	for _, s := range n.Sources {
		zones[s.Server] = s.Zones
	}
	split, _ := longest(n.Splits, suffixOf, name)
	for _, server := range split.Servers {
		if z, has := longest(zones[server], rootOf, name); has {
			return server, z, true
		}
	}
	return "", api.Zone{}, false
}

// Ask finds a name.
func Ask(n api.Net, name string, kind int) (api.Answer, api.Errno) {
	if e := cmp.Or(CheckNet(n), CheckDomain(name), checkKind(kind)); e != api.OK {
		return api.Answer{}, e
	}
	for _, s := range tried(n.Search, n.Dots, name) {
		server, zone, is := asked(n, s)
		if !is {
			continue
		}
		// With an error there are no records.
		if got, _ := finderOf(zone).find(s, kind); len(got) > 0 {
			return api.Answer{Name: s, Server: server, Records: got}, api.OK
		}
	}
	return api.Answer{}, api.ErrNone
}
