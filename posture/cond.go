package posture

import (
	"cmp"
	"iter"
	"maps"
	"slices"

	"holloway/api"
	"holloway/checks"
	"holloway/notation"
)

const (
	wordTrue  = "true"
	wordFalse = "false"
)

// opIs is the operator of a name alone.
const opIs = "=="

// fits says whether an order of two attributes (-1, 0 or 1) is as an operator says, and whether there is this operator.
func fits(op string, order int) (bool, bool) {
	switch op {
	case opIs:
		return order == 0, true
	case "!=":
		return order != 0, true
	case "<":
		return order < 0, true
	case "<=":
		return order <= 0, true
	case ">":
		return order > 0, true
	case ">=":
		return order >= 0, true
	}
	return false, false
}

// isOp says whether there is an operator.
func isOp(op string) bool {
	_, is := fits(op, 0)
	return is
}

// isTooLarge says whether a condition, so deep in another one, makes this too deep, or has too many comparisons, with those that were counted before. It goes no deeper than that.
func isTooLarge(c api.Cond, deep int, count *int) bool {
	if c.Kind == api.CondIs {
		*count++
	}
	if deep > api.MaxDeep || *count > api.MaxLeaves {
		return true
	}
	return slices.ContainsFunc(c.Kids, func(kid api.Cond) bool { return isTooLarge(kid, deep+1, count) })
}

// hasForm says whether a condition of a kind that there is has what this kind has, and nothing else.
func hasForm(c api.Cond) bool {
	if c.Kind == api.CondIs {
		return len(c.Kids) == 0
	}
	if c.Name != "" || c.Op != "" || c.Value != (api.Attr{}) {
		return false
	}
	if c.Kind == api.CondNot {
		return len(c.Kids) == 1
	}
	return len(c.Kids) >= 2 && !slices.ContainsFunc(c.Kids, func(kid api.Cond) bool { return kid.Kind == c.Kind })
}

// isName says whether a string is the name of an attribute in a condition, so that it is not read as a value.
func isName(s string) bool {
	return notation.IsKey(s) && s != wordTrue && s != wordFalse && !beginsVersion(s)
}

// checkIs is what is wrong with a comparison.
func checkIs(c api.Cond) api.Errno {
	ordered := c.Op != opIs && c.Op != "!="
	return cmp.Or(
		checks.Need(isName(c.Name), api.ErrName),
		checks.Need(isOp(c.Op), api.ErrType),
		checkAttr(c.Value),
		checks.Need(c.Value.Kind != api.AttrFlag || !ordered, api.ErrType),
	)
}

// checkParts is what is wrong with a condition, or else with what is in it.
func checkParts(c api.Cond) api.Errno {
	if c.Kind < api.CondIs || c.Kind > api.CondOr {
		return api.ErrKind
	}
	if !hasForm(c) {
		return api.ErrForm
	}
	if c.Kind == api.CondIs {
		return checkIs(c)
	}
	return checks.Each(c.Kids, len(c.Kids), checkParts)
}

// CheckCond validates a condition.
func CheckCond(c api.Cond) api.Errno {
	count := 0
	if isTooLarge(c, 1, &count) {
		return api.ErrLarge
	}
	return checkParts(c)
}

// comparisons goes through the comparisons of a condition that is right, as they are written.
func comparisons(c api.Cond) iter.Seq[api.Cond] {
	return func(yield func(api.Cond) bool) {
		var visit func(c api.Cond) bool
		visit = func(c api.Cond) bool {
			if c.Kind == api.CondIs {
				return yield(c)
			}
			return !slices.ContainsFunc(c.Kids, func(kid api.Cond) bool { return !visit(kid) })
		}
		visit(c)
	}
}

// Names are the names of the attributes of a condition.
func Names(c api.Cond) ([]string, api.Errno) {
	if e := CheckCond(c); e != api.OK {
		return nil, e
	}
	names := map[string]bool{}
	for x := range comparisons(c) {
		names[x.Name] = true
	}
	return slices.Sorted(maps.Keys(names)), api.OK
}
