package filter

import (
	"cmp"
	"slices"

	"holloway/api"
	"holloway/checks"
)

// Tracker tracks flows.
type Tracker struct {
	rows  []*row
	times api.Times
	most  int
	now   int           // the moment of the last packet
	flows []api.Tracked // in the order in which they were tracked first
}

// CheckTimes validates times.
func CheckTimes(t api.Times) api.Errno {
	for _, n := range [...]int{t.Young, t.Tcp, t.Done, t.Other} {
		if n < 1 || n > api.DayLong {
			return api.ErrArg
		}
	}
	return api.OK
}

// New makes a tracker.
func New(l []api.Filter, t api.Times, most int) (*Tracker, api.Errno) {
	if e := cmp.Or(Check(l), CheckTimes(t)); e != api.OK {
		return nil, e
	}
	if most < 1 || most > api.MaxTracked {
		return nil, api.ErrArg
	}
	return &Tracker{rows: rowsOf(l), times: t, most: most}, api.OK
}

// Set gives a tracker other rows.
func (t *Tracker) Set(l []api.Filter) api.Errno {
	if e := Check(l); e != api.OK {
		return e
	}
	t.rows = rowsOf(l)
	return api.OK
}

// length is for how many seconds a flow lasts since it was seen last.
func (t *Tracker) length(x api.Tracked) int {
	switch {
	case x.Done:
		return t.times.Done
	case !x.Answered:
		return t.times.Young
	case x.Flow.Proto == api.ProtoTcp:
		return t.times.Tcp
	}
	return t.times.Other
}

// lasting are the flows of a list that have not ended at a moment, in its memory.
func (t *Tracker) lasting(l []api.Tracked, at int) []api.Tracked {
	return slices.DeleteFunc(l, func(x api.Tracked) bool { return at-x.Last >= t.length(x) })
}

// see notes a packet of a flow that is tracked, if it is.
func (t *Tracker) see(f api.Flow, ends bool) bool {
	other := back(f)
	i := slices.IndexFunc(t.flows, func(x api.Tracked) bool { return x.Flow == f || x.Flow == other })
	if i < 0 {
		return false
	}
	x := &t.flows[i]
	x.Last = t.now
	x.Answered = x.Answered || x.Flow != f
	x.Done = x.Done || ends
	return true
}

// track notes a flow that begins.
func (t *Tracker) track(f api.Flow, ends bool) {
	t.flows = append(t.flows, api.Tracked{Flow: f, Last: t.now, Done: ends})
	if len(t.flows) <= t.most {
		return
	}
	oldest := 0
	for i, x := range t.flows {
		if x.Last < t.flows[oldest].Last {
			oldest = i
		}
	}
	t.flows = slices.Delete(t.flows, oldest, oldest+1)
}

// pass says whether a packet passes: it is of a flow that is tracked, or of one that may begin.
func (t *Tracker) pass(p api.Packet, at int, begins func(f api.Flow) bool) (bool, api.Errno) {
	if e := cmp.Or(CheckPacket(p), checks.Onward(at, t.now)); e != api.OK {
		return false, e
	}
	t.now = at
	t.flows = t.lasting(t.flows, at)
	f, ends := flowOf(p), p.Fin || p.Rst
	if t.see(f, ends) {
		return true, api.OK
	}
	if !begins(f) {
		return false, api.OK
	}
	t.track(f, ends)
	return true, api.OK
}

// In says whether a packet may come in.
func (t *Tracker) In(p api.Packet, at int) (bool, api.Errno) {
	return t.pass(p, at, func(f api.Flow) bool {
		return slices.ContainsFunc(t.rows, func(r *row) bool { return r.lets(f) })
	})
}

// Out sees a packet that goes out.
func (t *Tracker) Out(p api.Packet, at int) api.Errno {
	_, e := t.pass(p, at, func(api.Flow) bool { return true })
	return e
}

// Flows are the tracked flows that have not ended.
func (t *Tracker) Flows(at int) ([]api.Tracked, api.Errno) {
	if e := checks.Onward(at, t.now); e != api.OK {
		return nil, e
	}
	out := t.lasting(slices.Clone(t.flows), at)
	slices.SortStableFunc(out, func(x, y api.Tracked) int { return cmp.Compare(x.Last, y.Last) })
	return out, api.OK
}
