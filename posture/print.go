package posture

import (
	"strings"

	"holloway/api"
)

// textOf writes a condition that is right.
func textOf(c api.Cond) string {
	switch c.Kind {
	case api.CondIs:
		return c.Name + " " + c.Op + " " + attrText(c.Value)
	case api.CondNot:
		return "!" + partsText(c, "", func(kind int) bool { return kind != api.CondNot })
	case api.CondAnd:
		return partsText(c, " && ", func(kind int) bool { return kind == api.CondOr })
	}
	return partsText(c, " || ", func(int) bool { return false })
}

// partsText writes what is in a condition with a sign between; those of some kinds stand in parentheses.
func partsText(c api.Cond, sign string, inside func(kind int) bool) string {
	var out []string
	for _, kid := range c.Kids {
		text := textOf(kid)
		if inside(kid.Kind) {
			text = "(" + text + ")"
		}
		out = append(out, text)
	}
	return strings.Join(out, sign)
}

// Print writes a condition.
func Print(c api.Cond) (string, api.Errno) {
	if e := CheckCond(c); e != api.OK {
		return "", e
	}
	text := textOf(c)
	if len(text) > api.MaxCond {
		return "", api.ErrLarge
	}
	return text, api.OK
}
