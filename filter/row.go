package filter

import (
	"slices"

	"holloway/api"
	"holloway/ports"
	"holloway/span"
)

// A row is a filter whose sets are least lists of ranges, which can be long.
type row struct {
	proto    int
	src, dst []api.Range
	ports    []api.Ports // a least list
}

// rowOf is the row of a filter that is right.
func rowOf(f api.Filter) *row {
	return &row{proto: f.Proto, src: span.Of(f.Src), dst: span.Of(f.Dst), ports: slices.Clone(f.Ports)}
}

// rowsOf are the rows of filters that are right.
func rowsOf(l []api.Filter) []*row {
	var out []*row
	for _, f := range l {
		out = append(out, rowOf(f))
	}
	return out
}

// setOf is a least list of ranges as a set, if it is not too long for one.
func setOf(l []api.Range) ([]api.Prefix, api.Errno) {
	out := slices.Collect(span.Prefixes(l))
	if len(out) > api.MaxSet {
		return nil, api.ErrLarge
	}
	return out, api.OK
}

// filter is the filter of a row, if no part of it is too long.
func (r *row) filter() (api.Filter, api.Errno) {
	src, e := setOf(r.src)
	if e != api.OK {
		return api.Filter{}, e
	}
	dst, e := setOf(r.dst)
	if e != api.OK {
		return api.Filter{}, e
	}
	if len(r.ports) > api.MaxSet {
		return api.Filter{}, api.ErrLarge
	}
	return api.Filter{Proto: r.proto, Src: src, Dst: dst, Ports: slices.Clone(r.ports)}, api.OK
}

// takes says whether rows of a protocol take all of another one.
func takes(proto, other int) bool { return proto == api.ProtoAll || proto == other }

// lets says whether a row lets a flow in.
func (r *row) lets(f api.Flow) bool {
	return takes(r.proto, f.Proto) && span.Has(r.src, f.From) && span.Has(r.dst, f.To) && ports.Has(r.ports, f.ToPort)
}
