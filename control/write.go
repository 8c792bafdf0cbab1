package control

import (
	"cmp"
	"slices"
	"strings"

	"holloway/api"
	"holloway/checks"
	"holloway/node"
	"holloway/orders"
	"holloway/posture"
	"holloway/route"
	"holloway/steps"
)

// wait makes a later moment the time.
func (c *Console) wait(w []string) api.Errno {
	at, ok := number(w[0])
	if !ok {
		return api.ErrSyntax
	}
	e := checks.Onward(at, c.now)
	if e == api.OK {
		c.now = at
	}
	return e
}

// with is a list with one part more, at its place in the order, and its number there; there is an error if another part has this place.
func with[T any](l []T, x T, compare func(x, y T) int) ([]T, int, api.Errno) {
	i, is := slices.BinarySearchFunc(l, x, compare)
	if is {
		return nil, 0, api.ErrTwice
	}
	return slices.Insert(slices.Clone(l), i, x), i, api.OK
}

// whyOf is why a step or an asking is refused, if it is one of those that are.
func whyOf(refused []api.Refusal, number int) api.Errno {
	for _, r := range refused {
		if r.Step == number {
			return r.Why
		}
	}
	return api.OK
}

// lastNo is the greatest number of a step of the console.
func (c *Console) lastNo() int {
	last := 0
	for _, s := range c.book.Steps {
		if s.Server == c.name {
			last = max(last, s.No)
		}
	}
	return last
}

// step writes a step down, by the words from that of its kind on.
func (c *Console) step(words []string) api.Errno {
	s, ok := steps.Columns().Read(words)
	if !ok {
		return api.ErrSyntax
	}
	s.At, s.Server, s.No = c.now, c.name, c.lastNo()+1
	// No step has its place, as none has its number.
	all, i, _ := with(c.book.Steps, s, orders.Steps)
	if e := node.Check(all); e != api.OK {
		return e
	}
	refused, _ := node.Refused(c.book.Setting.Directory, all)
	if e := whyOf(refused, i); e != api.OK {
		return e
	}
	c.book.Steps = all
	return api.OK
}

// claim writes a claim down, by what stands behind the first word.
func (c *Console) claim(rest string) api.Errno {
	read, _, e := posture.Read("0 " + rest + "\n")
	if e == api.ErrSyntax {
		return e
	}
	// What has the form has two words ahead of the value.
	w := strings.SplitN(rest, " ", 3)
	x := api.Claim{At: c.now, Node: w[0], Name: w[1]}
	if e == api.OK {
		x.Value = read[0].Value
	}
	all, _, twice := with(c.book.Claims, x, orders.Claims)
	// Of all claims their number is asked for first, then what is wrong with this one.
	if e := cmp.Or(twice, checks.Need(len(all) <= api.MaxClaims, api.ErrLarge), e); e != api.OK {
		return e
	}
	c.book.Claims = all
	return api.OK
}

// asking writes an asking down.
func (c *Console) asking(x api.Asking) api.Errno {
	all, i, e := with(c.book.Askings, x, orders.Askings)
	if e = cmp.Or(e, posture.CheckAskings(all)); e != api.OK {
		return e
	}
	refused, _ := posture.Refused(c.book.Setting.Access, all)
	if e := whyOf(refused, i); e != api.OK {
		return e
	}
	c.book.Askings = all
	return api.OK
}

// ask asks for a posture.
func (c *Console) ask(w []string) api.Errno {
	long, ok := number(w[4])
	if !ok {
		return api.ErrSyntax
	}
	return c.asking(api.Asking{At: c.now, Key: w[0], By: w[1], Kind: api.AskFor, Node: w[2], Posture: w[3], Long: long})
}

// says is somebody's word of a kind to a request.
func (c *Console) says(kind int) func(w []string) api.Errno {
	return func(w []string) api.Errno {
		return c.asking(api.Asking{At: c.now, Key: w[0], By: w[1], Kind: kind})
	}
}

// isUp tells that a node is up, or down.
func (c *Console) isUp(up bool) func(w []string) api.Errno {
	return func(w []string) api.Errno {
		all, _, e := with(c.book.Health, api.Health{At: c.now, Node: w[0], Up: up}, orders.Health)
		if e = cmp.Or(e, route.CheckHealth(all)); e != api.OK {
			return e
		}
		c.book.Health = all
		return api.OK
	}
}
