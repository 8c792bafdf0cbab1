package rule

import (
	"cmp"

	"holloway/api"
	"holloway/ports"
	"holloway/span"
)

// A rule is a grant of a view, on one side of a comparison, or on both.
type rule struct {
	view        *view
	grant       *api.Grant
	left, right bool
}

// A trait is all that the rules of a comparison know of an address, as From or as To.
type trait struct {
	six   bool
	users [2]string // of the node that has it, for each view
	mark  int       // equal just if the rules name it alike
}

// A sample is the least address with a trait.
type sample struct {
	trait
	addr api.Addr
}

// A pair is all that the rules know of two addresses together.
type pair struct {
	from, to int     // marks
	same     [2]bool // whether nodes of one user have them, for each view
}

// A comparison looks for flows that just one of its sides permits. Addresses with one trait are decided alike, so it looks at one of each.
type comparison struct {
	views    []*view
	rules    []rule
	from, to []sample // rising
}

// compare makes a comparison of one view or two: the first one on the left, the second one on the right.
func compare(views ...*view) *comparison {
	c := &comparison{views: views}
	var edges [][]api.Range
	for i, v := range views {
		for _, g := range v.grants {
			c.rules = append(c.rules, rule{view: v, grant: g, left: i == 0, right: i == 1})
		}
		edges = append(edges, v.edges())
	}
	cuts, number := span.Cuts(edges...), numberer()
	c.from = c.samples(cuts, c.sources)
	c.to = c.samples(cuts, func(a api.Addr) int { return number(c.targets(a)) })
	return c
}

// numberer gives numbers to strings, the same one to equal ones.
func numberer() func(s string) int {
	known := map[string]int{}
	return func(s string) int {
		n, ok := known[s]
		if !ok {
			n = len(known)
			known[s] = n
		}
		return n
	}
}

// sources says of which rules an address is a source, with a bit for each.
func (c *comparison) sources(a api.Addr) int {
	bits := 0
	for i, r := range c.rules {
		if r.view.isSource(r.grant, a) {
			bits |= 1 << i
		}
	}
	return bits
}

// targets says of which targets of the rules an address is one, with a sign for each. (WhatSelf has no addresses by itself.)
func (c *comparison) targets(a api.Addr) string {
	var signs []byte
	for _, r := range c.rules {
		for _, t := range r.grant.Dst {
			sign := byte('-')
			if span.Has(r.view.addresses(t.What), a) {
				sign = '+'
			}
			signs = append(signs, sign)
		}
	}
	return string(signs)
}

// samples are the least addresses of all traits; an address has that of the last cut up to it.
func (c *comparison) samples(cuts []api.Addr, mark func(a api.Addr) int) []sample {
	seen := map[trait]bool{}
	var out []sample
	for _, a := range cuts {
		x := trait{six: a.Six, mark: mark(a)}
		for i, v := range c.views {
			x.users[i] = v.userOf(a)
		}
		if !seen[x] {
			seen[x] = true
			out = append(out, sample{trait: x, addr: a})
		}
	}
	return out
}

// protos are the protocols, rising, to look at: of those that have no ports and that no rule names, the least one stands for all.
func (c *comparison) protos() []int {
	named := map[int]bool{api.ProtoTcp: true, api.ProtoUdp: true}
	for _, r := range c.rules {
		named[r.grant.Proto] = true
	}
	var out []int
	other := false
	for proto := 1; proto <= api.MaxProto; proto++ {
		if named[proto] || !other {
			out = append(out, proto)
		}
		other = other || !named[proto]
	}
	return out
}

// least is the least flow that just one side permits, and whether there is one.
func (c *comparison) least() (api.Flow, bool) {
	for _, proto := range c.protos() {
		if f, ok := c.leastOf(proto); ok {
			return f, true
		}
	}
	return api.Flow{}, false
}

// leastOf is the least flow of a protocol that just one side permits, and whether there is one.
func (c *comparison) leastOf(proto int) (api.Flow, bool) {
	apart := c.apart(proto)
	alike := map[pair]bool{}
	for _, from := range c.from {
		if from.mark&apart == 0 {
			continue
		}
		for _, to := range c.to {
			p := pairOf(from, to)
			if from.six != to.six || alike[p] {
				continue
			}
			if port, ok := c.leastPort(proto, from.addr, to.addr); ok {
				return api.Flow{Proto: proto, From: from.addr, To: to.addr, ToPort: port}, true
			}
			alike[p] = true
		}
	}
	return api.Flow{}, false
}

// apart says which rules for a protocol are on one side only, with a bit for each.
func (c *comparison) apart(proto int) int {
	bits := 0
	for i, r := range c.rules {
		if r.left != r.right && takes(r.grant, proto) {
			bits |= 1 << i
		}
	}
	return bits
}

func pairOf(from, to sample) pair {
	p := pair{from: from.mark, to: to.mark}
	for i, user := range from.users {
		p.same[i] = user != "" && user == to.users[i]
	}
	return p
}

// leastPort is the least port at which just one side lets an address reach another one, and whether there is one.
func (c *comparison) leastPort(proto int, from, to api.Addr) (int, bool) {
	var left, right []api.Ports
	for _, r := range c.rules {
		if !takes(r.grant, proto) {
			continue
		}
		doors := r.view.doors(r.grant, from, to)
		if r.left {
			left = append(left, doors...)
		}
		if r.right {
			right = append(right, doors...)
		}
	}
	if ports.UsedBy(proto) {
		return ports.Differ(left, right)
	}
	return 0, ports.Has(left, 0) != ports.Has(right, 0)
}

// checkCompared is what is wrong with the number of the grants of policies that are compared.
func checkCompared(grants int) api.Errno {
	if grants > api.MaxCompare {
		return api.ErrLarge
	}
	return api.OK
}

// Differ is the least flow that one of two scenes permits, and the other one does not.
func Differ(s, t api.Scene) (api.Flow, bool, api.Errno) {
	if e := cmp.Or(Check(s), Check(t), checkCompared(len(s.Policy.Grants)+len(t.Policy.Grants))); e != api.OK {
		return api.Flow{}, false, e
	}
	f, ok := compare(newView(s), newView(t)).least()
	return f, ok, api.OK
}

// Idle are the grants without which the scene does not differ.
func Idle(s api.Scene) ([]int, api.Errno) {
	if e := cmp.Or(Check(s), checkCompared(len(s.Policy.Grants))); e != api.OK {
		return nil, e
	}
	c := compare(newView(s))
	var out []int
	for i := range c.rules {
		for k := range c.rules {
			c.rules[k].right = k != i
		}
		if _, differs := c.least(); !differs {
			out = append(out, i)
		}
	}
	return out, api.OK
}
