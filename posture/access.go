package posture

import (
	"cmp"
	"strings"

	"holloway/api"
	"holloway/checks"
	"holloway/orders"
)

// CheckAccess validates who may give postures.
func CheckAccess(r []api.Access) api.Errno {
	key := func(x api.Access) api.Errno { return checks.Key(x.Posture) }
	byPosture := func(x, y api.Access) int { return strings.Compare(x.Posture, y.Posture) }
	return checks.Rising(r, api.MaxAccess, key, byPosture, func(x api.Access) api.Errno {
		return cmp.Or(
			checks.Rising(x.Approvers, api.MaxUsers, checks.Key, strings.Compare),
			checks.Number(x.Need, 1, len(x.Approvers)),
			checks.Number(x.Wait, 1, api.End),
			checks.Number(x.Most, 1, api.End),
		)
	})
}

// checkAsking is what is wrong with an asking.
func checkAsking(x api.Asking) api.Errno {
	known := api.AskFor <= x.Kind && x.Kind <= api.AskStop
	e := cmp.Or(checks.Moment(x.At), checks.Key(x.Key), checks.Key(x.By), checks.Need(known, api.ErrKind))
	if x.Kind == api.AskFor {
		return cmp.Or(e, checks.Key(x.Node), checks.Key(x.Posture), checks.Number(x.Long, 1, api.End))
	}
	return cmp.Or(e, checks.Need(x.Node == "" && x.Posture == "" && x.Long == 0, api.ErrForm))
}

// CheckAskings validates askings.
func CheckAskings(l []api.Asking) api.Errno {
	return checks.Rising(l, api.MaxAskings, checkAsking, orders.Askings)
}

// checkDesk is what is wrong with accesses and askings.
func checkDesk(r []api.Access, l []api.Asking) api.Errno {
	return cmp.Or(CheckAccess(r), CheckAskings(l))
}
