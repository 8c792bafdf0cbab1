package flow

import (
	"cmp"

	"holloway/api"
	"holloway/lists"
)

// An ownership says which nodes have addresses, by their keys.
type ownership map[api.Addr]string

// ownersOf are the owners of the addresses of nodes that are right.
func ownersOf(nodes []api.Node) ownership {
	out := ownership{}
	for _, n := range nodes {
		for _, a := range n.Addrs {
			out[a] = n.Key
		}
	}
	return out
}

// fits says whether a report that is right is told by the node at its end of the flow.
func (o ownership) fits(r api.Report) bool {
	if r.Out {
		return o[r.Flow.From] == r.Node
	}
	return o[r.Flow.To] == r.Node
}

// told is what one end told of a flow in an hour.
type told struct{ packets, bytes int }

// nothing is what an end told that told nothing: it is less than all that can be told.
func nothing() told { return told{packets: -1, bytes: -1} }

// greater are the greater numbers of both.
func greater(x, y told) told {
	return told{packets: max(x.packets, y.packets), bytes: max(x.bytes, y.bytes)}
}

// A pair is what both ends told of a flow in an hour, with the nodes at the ends; empty if there is none.
type pair struct {
	hour      int
	flow      api.Flow
	from, to  string
	sent, got told
}

// half is what a report that fits says of a pair.
func (o ownership) half(r api.Report) pair {
	p := pair{hour: r.Hour, flow: r.Flow, from: o[r.Flow.From], to: o[r.Flow.To], sent: nothing(), got: nothing()}
	one := told{packets: r.Packets, bytes: r.Bytes}
	if r.Out {
		p.sent = one
	} else {
		p.got = one
	}
	return p
}

func comparePairs(x, y pair) int {
	return cmp.Or(cmp.Compare(x.hour, y.hour), compareFlows(x.flow, y.flow))
}

// join makes one pair of both halves: each end tells of a flow in an hour but once.
func join(x, y pair) pair {
	x.sent, x.got = greater(x.sent, y.sent), greater(x.got, y.got)
	return x
}

// pairsOf are the pairs of reports, by their hours, then by the flows, if nodes and reports are right.
func pairsOf(nodes []api.Node, l []api.Report) []pair {
	owners := ownersOf(nodes)
	var halves []pair
	for _, r := range l {
		if owners.fits(r) {
			halves = append(halves, owners.half(r))
		}
	}
	return lists.Gather(halves, comparePairs, join)
}

// lost is how many packets were sent, and not got; -1 if it is not known.
func (p pair) lost() int {
	if p.got == nothing() || p.sent.packets < p.got.packets {
		return -1
	}
	return p.sent.packets - p.got.packets
}

// Pair is what both ends told.
func Pair(nodes []api.Node, l []api.Report) ([]api.Pairing, api.Errno) {
	if e := checkAll(nodes, l); e != api.OK {
		return nil, e
	}
	return lists.Map(pairsOf(nodes, l), func(p pair) api.Pairing {
		return api.Pairing{Hour: p.hour, Flow: p.flow, From: p.from, To: p.to, Sent: p.sent.bytes, Got: p.got.bytes, Lost: p.lost()}
	}), api.OK
}
