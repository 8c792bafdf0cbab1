package posture

import (
	"cmp"

	"holloway/api"
	"holloway/checks"
	"holloway/times"
)

// judge says what is known of a condition that is right.
func judge(c api.Cond, known values) int {
	switch c.Kind {
	case api.CondIs:
		return judgeIs(c, known[c.Name])
	case api.CondNot:
		return contrary(judge(c.Kids[0], known))
	}
	decisive := decisiveOf(c.Kind)
	out := contrary(decisive)
	for _, kid := range c.Kids {
		switch judge(kid, known) {
		case decisive:
			return decisive
		case api.JudgeUnknown:
			out = api.JudgeUnknown
		}
	}
	return out
}

// judgeIs says what is known of a comparison with an attribute, which is zero if nothing is known of it.
func judgeIs(c api.Cond, value api.Attr) int {
	if value.Kind != c.Value.Kind {
		return api.JudgeUnknown
	}
	if yes, _ := fits(c.Op, compareAttrs(value, c.Value)); yes {
		return api.JudgeYes
	}
	return api.JudgeNo
}

// contrary is what is known of the contrary.
func contrary(verdict int) int {
	switch verdict {
	case api.JudgeNo:
		return api.JudgeYes
	case api.JudgeYes:
		return api.JudgeNo
	}
	return verdict
}

// decisiveOf is what decides a CondAnd or CondOr if one of its parts is it.
func decisiveOf(kind int) int {
	if kind == api.CondAnd {
		return api.JudgeNo
	}
	return api.JudgeYes
}

// proof are the fewest comparisons that decide a condition, which is decided; first is the number of its first one.
func proof(c api.Cond, known values, first int) []int {
	switch c.Kind {
	case api.CondIs:
		return []int{first}
	case api.CondNot:
		return proof(c.Kids[0], known, first)
	}
	verdict := judge(c, known)
	one := verdict == decisiveOf(c.Kind)
	var out []int
	for _, kid := range c.Kids {
		if judge(kid, known) == verdict {
			part := proof(kid, known, first)
			switch {
			case !one:
				out = append(out, part...)
			case out == nil || len(part) < len(out):
				// Of parts that are as short the first one is the least one: its numbers are less.
				out = part
			}
		}
		for range comparisons(kid) {
			first++
		}
	}
	return out
}

// checkAsked is what is wrong with a condition, claims and a node.
func checkAsked(c api.Cond, l []api.Claim, fresh int, node string) api.Errno {
	return cmp.Or(CheckCond(c), CheckClaims(l), checkFresh(fresh), checks.Key(node))
}

// Judge says what is known of a condition.
func Judge(c api.Cond, l []api.Claim, fresh int, node string, at int) (int, api.Errno) {
	if e := cmp.Or(checkAsked(c, l, fresh, node), checks.Moment(at)); e != api.OK {
		return 0, e
	}
	return judge(c, knownAt(l, fresh, at)[node]), api.OK
}

// Proof are the fewest comparisons that decide a condition.
func Proof(c api.Cond, l []api.Claim, fresh int, node string, at int) ([]int, api.Errno) {
	if e := cmp.Or(checkAsked(c, l, fresh, node), checks.Moment(at)); e != api.OK {
		return nil, e
	}
	known := knownAt(l, fresh, at)[node]
	if judge(c, known) == api.JudgeUnknown {
		return nil, api.OK
	}
	return proof(c, known, 0), api.OK
}

// held are the times in which a condition is judged with yes, by the claims of a node with their ends; they rise, and are apart.
func held(c api.Cond, l []api.Claim) []api.Window {
	known := values{}
	var out []api.Window
	for at, told := range times.Moments(l, momentOfClaim) {
		for _, x := range told {
			known[x.Name] = x.Value
		}
		n := len(out)
		was := n > 0 && out[n-1].To == api.End
		is := judge(c, known) == api.JudgeYes
		switch {
		case is && !was:
			out = append(out, api.Window{From: at, To: api.End})
		case was && !is:
			out[n-1].To = at
		}
	}
	return out
}

// HeldTime is at how many moments of a window a condition is judged with yes.
func HeldTime(c api.Cond, l []api.Claim, fresh int, node string, w api.Window) (int, api.Errno) {
	if e := cmp.Or(checkAsked(c, l, fresh, node), checks.Window(w)); e != api.OK {
		return 0, e
	}
	return times.Within(held(c, byNodes(withEnds(l, fresh))[node]), w), api.OK
}
