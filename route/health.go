package route

import (
	"cmp"

	"holloway/api"
	"holloway/checks"
	"holloway/orders"
)

// CheckHealth validates what is told of health.
func CheckHealth(l []api.Health) api.Errno {
	check := func(h api.Health) api.Errno { return cmp.Or(checks.Moment(h.At), checks.Key(h.Node)) }
	return checks.Rising(l, api.MaxHealth, check, orders.Health)
}

func momentOfHealth(h api.Health) int { return h.At }

// upAt has the nodes that are up at a moment.
func upAt(l []api.Health, at int) map[string]bool {
	up := map[string]bool{}
	for _, h := range l {
		if h.At > at {
			break
		}
		up[h.Node] = h.Up
	}
	return up
}

// IsUp says whether a node is up.
func IsUp(l []api.Health, node string, at int) (bool, api.Errno) {
	if e := cmp.Or(CheckHealth(l), checks.Key(node), checks.Moment(at)); e != api.OK {
		return false, e
	}
	return upAt(l, at)[node], api.OK
}

// UpTime is at how many moments of a window a node is up.
func UpTime(l []api.Health, node string, w api.Window) (int, api.Errno) {
	if e := cmp.Or(CheckHealth(l), checks.Key(node), checks.Window(w)); e != api.OK {
		return 0, e
	}
	var up record
	for _, h := range l {
		switch {
		case h.Node != node:
		case h.Up:
			up.give(node, h.At)
		default:
			up.give("", h.At)
		}
	}
	return up.within(w), api.OK
}
