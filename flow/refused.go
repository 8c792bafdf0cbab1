package flow

import (
	"cmp"
	"maps"
	"slices"

	"holloway/api"
	"holloway/filter"
	"holloway/lists"
	"holloway/rule"
)

// denied are those of some flows that the policy of a scene does not permit, if all of them are right.
func denied(s api.Scene, l []api.Flow) map[api.Flow]bool {
	out := map[api.Flow]bool{}
	// A scene is checked anew at each question: the flows are asked for as its tests, many at once.
	for part := range slices.Chunk(l, api.MaxTests) {
		s.Policy.Tests = lists.Map(part, func(f api.Flow) api.Test { return api.Test{Flow: f, Accept: true} })
		failing, _ := rule.Failures(s)
		for _, i := range failing {
			out[part[i]] = true
		}
	}
	return out
}

// back is a flow that is right, the other way round.
func back(f api.Flow) api.Flow {
	out, _ := filter.Back(f)
	return out
}

// Refused are the reports of flows that the policy does not permit.
func Refused(s api.Scene, l []api.Report) ([]int, api.Errno) {
	if e := cmp.Or(rule.Check(s), Check(l)); e != api.OK {
		return nil, e
	}
	owners := ownersOf(s.Nodes)
	counts := func(r api.Report) bool { return !r.Out && owners.fits(r) }
	asked := map[api.Flow]bool{}
	for _, r := range l {
		if counts(r) {
			asked[r.Flow], asked[back(r.Flow)] = true, true
		}
	}
	no := denied(s, slices.SortedFunc(maps.Keys(asked), compareFlows))
	var out []int
	for i, r := range l {
		if counts(r) && no[r.Flow] && no[back(r.Flow)] {
			out = append(out, i)
		}
	}
	return out, api.OK
}
