package route

import (
	"cmp"
	"slices"
	"strings"

	"holloway/api"
	"holloway/checks"
)

// CheckSamples validates samples.
func CheckSamples(l []api.Sample) api.Errno {
	check := func(s api.Sample) api.Errno {
		return cmp.Or(checks.Moment(s.At), checks.Key(s.Path), checkMillis(s.Millis))
	}
	return checks.Rising(l, api.MaxSamples, check, func(x, y api.Sample) int {
		return cmp.Or(cmp.Compare(x.At, y.At), strings.Compare(x.Path, y.Path))
	})
}

// looks are the moments at which another path may be used: those of samples, and those at which samples get too old. (Where the path has a newer one by then, the look changes nothing.)
func looks(l []api.Sample, fresh int) []int {
	var out []int
	for _, s := range l {
		out = append(out, s.At)
		if old := s.At + fresh; old < api.End {
			out = append(out, old)
		}
	}
	slices.Sort(out)
	return slices.Compact(out)
}

// goodOf are the good paths of those that are known.
func goodOf(known map[string]api.Sample, at, fresh int) []offer {
	var out []offer
	for path, s := range known {
		if s.Millis != noAnswer && s.At+fresh > at {
			out = append(out, offer{who: path, millis: s.Millis})
		}
	}
	return out
}

// Used are the times in which paths are used.
func Used(l []api.Sample, gain, fresh int) ([]api.Turn, api.Errno) {
	if e := cmp.Or(CheckSamples(l), checkGain(gain), checks.Number(fresh, 1, api.End)); e != api.OK {
		return nil, e
	}
	known := map[string]api.Sample{}
	rest := l
	var out record
	for _, at := range looks(l, fresh) {
		for len(rest) > 0 && rest[0].At <= at {
			known[rest[0].Path] = rest[0]
			rest = rest[1:]
		}
		out.give(chosen(goodOf(known, at, fresh), out.holder(), gain), at)
	}
	return out, api.OK
}
