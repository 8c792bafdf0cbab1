package posture

import (
	"cmp"
	"maps"
	"slices"
	"strings"

	"holloway/api"
	"holloway/checks"
	"holloway/orders"
	"holloway/times"
)

// A request is what was asked for, and what became of it.
type request struct {
	api.Request // but State and Yes, which are those of a moment
	access      api.Access
	until       int // it waits before this
	long        int
	agreed      []string
	denied      bool
	given       bool
}

// stateAt is the state of a request at a moment, if no asking comes up to then.
func (q *request) stateAt(at int) int {
	switch {
	case q.denied:
		return api.RequestDenied
	case q.given && at < q.To:
		return api.RequestGiven
	case q.given:
		return api.RequestOver
	case at < q.until:
		return api.RequestWaits
	}
	return api.RequestLapsed
}

func (q *request) isApprover(user string) bool { return slices.Contains(q.access.Approvers, user) }

// mayEnd says whether a user may deny a request, or stop it.
func (q *request) mayEnd(user string) bool { return q.isApprover(user) || user == q.By }

func (q *request) agree(x api.Asking) api.Errno {
	switch {
	case q.stateAt(x.At) != api.RequestWaits:
		return api.ErrState
	case !q.isApprover(x.By) || x.By == q.By:
		return api.ErrRule
	case slices.Contains(q.agreed, x.By):
		return api.ErrTwice
	}
	q.agreed = append(q.agreed, x.By)
	if len(q.agreed) == q.access.Need {
		q.given = true
		q.From, q.To = x.At, min(x.At+q.long, api.End)
	}
	return api.OK
}

func (q *request) deny(x api.Asking) api.Errno {
	switch {
	case q.stateAt(x.At) != api.RequestWaits:
		return api.ErrState
	case !q.mayEnd(x.By):
		return api.ErrRule
	}
	q.denied = true
	return api.OK
}

func (q *request) stop(x api.Asking) api.Errno {
	switch {
	case q.stateAt(x.At) != api.RequestGiven:
		return api.ErrState
	case !q.mayEnd(x.By):
		return api.ErrRule
	}
	q.To = x.At
	return api.OK
}

// A desk has the requests that there are.
type desk struct {
	access   map[string]api.Access // by postures
	requests map[string]*request
}

func newDesk(r []api.Access) *desk {
	d := &desk{access: map[string]api.Access{}, requests: map[string]*request{}}
	for _, x := range r {
		d.access[x.Posture] = x
	}
	return d
}

// open makes a request.
func (d *desk) open(x api.Asking) api.Errno {
	access, is := d.access[x.Posture]
	switch {
	case d.requests[x.Key] != nil:
		return api.ErrTwice
	case !is:
		return api.ErrNone
	case x.Long > access.Most:
		return api.ErrRule
	}
	q := api.Request{Key: x.Key, By: x.By, Node: x.Node, Posture: x.Posture}
	d.requests[x.Key] = &request{Request: q, access: access, until: x.At + access.Wait, long: x.Long}
	return api.OK
}

// follow follows an asking, if nothing is against it.
func (d *desk) follow(x api.Asking) api.Errno {
	if x.Kind == api.AskFor {
		return d.open(x)
	}
	q := d.requests[x.Key]
	if q == nil {
		return api.ErrNone
	}
	switch x.Kind {
	case api.AskYes:
		return q.agree(x)
	case api.AskNo:
		return q.deny(x)
	}
	return q.stop(x)
}

// Refused are the askings that are not followed.
func Refused(r []api.Access, l []api.Asking) ([]api.Refusal, api.Errno) {
	if e := checkDesk(r, l); e != api.OK {
		return nil, e
	}
	d := newDesk(r)
	var out []api.Refusal
	for i, x := range l {
		if e := d.follow(x); e != api.OK {
			out = append(out, api.Refusal{Step: i, Why: e})
		}
	}
	return out, api.OK
}

// followed are the requests behind the askings up to a moment.
func followed(r []api.Access, l []api.Asking, at int) []*request {
	d := newDesk(r)
	for _, x := range l {
		if x.At > at {
			break
		}
		d.follow(x)
	}
	byKey := func(x, y *request) int { return strings.Compare(x.Key, y.Key) }
	return slices.SortedFunc(maps.Values(d.requests), byKey)
}

// Requests are all requests at a moment.
func Requests(r []api.Access, l []api.Asking, at int) ([]api.Request, api.Errno) {
	if e := cmp.Or(checkDesk(r, l), checks.Moment(at)); e != api.OK {
		return nil, e
	}
	var out []api.Request
	for _, q := range followed(r, l, at) {
		x := q.Request
		x.State, x.Yes = q.stateAt(at), len(q.agreed)
		out = append(out, x)
	}
	return out, api.OK
}

// givenTimes are the times in which facts are given, behind all askings: one that is stopped later was given up to then all the same.
func givenTimes(r []api.Access, l []api.Asking) map[api.Fact][]api.Window {
	out := map[api.Fact][]api.Window{}
	for _, q := range followed(r, l, api.End) {
		if q.given {
			f := api.Fact{Node: q.Node, Posture: q.Posture}
			out[f] = append(out[f], api.Window{From: q.From, To: q.To})
		}
	}
	return out
}

// Given are the facts of requests that are given at a moment.
func Given(r []api.Access, l []api.Asking, at int) ([]api.Fact, api.Errno) {
	if e := cmp.Or(checkDesk(r, l), checks.Moment(at)); e != api.OK {
		return nil, e
	}
	var out []api.Fact
	for f, given := range givenTimes(r, l) {
		if slices.ContainsFunc(given, func(w api.Window) bool { return times.Has(w, at) }) {
			out = append(out, f)
		}
	}
	slices.SortFunc(out, orders.Facts)
	return out, api.OK
}

// NextEnd is the next moment at which other facts are given.
func NextEnd(r []api.Access, l []api.Asking, at int) (int, bool, api.Errno) {
	if e := cmp.Or(checkDesk(r, l), checks.Moment(at)); e != api.OK {
		return 0, false, e
	}
	next := api.End
	for _, given := range givenTimes(r, l) {
		next = min(next, times.Next(times.Join(given), at))
	}
	if next == api.End {
		return 0, false, api.OK
	}
	return next, true, api.OK
}
