package posture

import (
	"strings"

	"holloway/api"
)

// A parser reads a condition token by token; next is the one that comes. Where that does not fit, all stop ahead of it.
type parser struct {
	text string
	next token
}

// advance goes on behind the token that comes.
func (p *parser) advance() {
	rest := strings.TrimLeft(p.text[p.next.at+p.next.size:], " \n")
	p.next = tokenOf(rest)
	p.next.at = len(p.text) - len(rest)
}

// take goes on behind a sign, if it comes.
func (p *parser) take(sign string) bool {
	comes := p.next.sign == sign
	if comes {
		p.advance()
	}
	return comes
}

// cond reads a condition.
func (p *parser) cond() (api.Cond, bool) { return p.parts("||", api.CondOr, p.and) }

func (p *parser) and() (api.Cond, bool) { return p.parts("&&", api.CondAnd, p.part) }

// parts reads parts with a sign between; several ones are a condition of a kind.
func (p *parser) parts(sign string, kind int, read func() (api.Cond, bool)) (api.Cond, bool) {
	first, ok := read()
	if !ok || p.next.sign != sign {
		return first, ok
	}
	out := api.Cond{Kind: kind, Kids: joined(nil, kind, first)}
	for ok && p.take(sign) {
		var part api.Cond
		part, ok = read()
		out.Kids = joined(out.Kids, kind, part)
	}
	return out, ok
}

// joined are parts of a condition of a kind, with one more, or with the parts of it, if it is of this kind itself.
func joined(kids []api.Cond, kind int, part api.Cond) []api.Cond {
	if part.Kind == kind {
		return append(kids, part.Kids...)
	}
	return append(kids, part)
}

func (p *parser) part() (api.Cond, bool) {
	if p.take("!") {
		kid, ok := p.part()
		return api.Cond{Kind: api.CondNot, Kids: []api.Cond{kid}}, ok
	}
	if p.take("(") {
		c, ok := p.cond()
		return c, ok && p.take(")")
	}
	return p.comparison()
}

func (p *parser) comparison() (api.Cond, bool) {
	c := api.Cond{Kind: api.CondIs, Name: p.next.name, Op: opIs, Value: flag(true)}
	if c.Name == "" {
		return api.Cond{}, false
	}
	p.advance()
	if !isOp(p.next.sign) {
		return c, true
	}
	c.Op = p.next.sign
	p.advance()
	c.Value = p.next.value
	if c.Value.Kind == 0 {
		return api.Cond{}, false
	}
	p.advance()
	return c, true
}

// Parse reads a condition.
func Parse(text string) (api.Cond, int, api.Errno) {
	if len(text) > api.MaxCond {
		return api.Cond{}, 0, api.ErrLarge
	}
	p := parser{text: text}
	p.advance()
	c, ok := p.cond()
	if !ok || p.next.at < len(text) {
		return api.Cond{}, p.next.at, api.ErrSyntax
	}
	if e := CheckCond(c); e != api.OK {
		return api.Cond{}, 0, e
	}
	return c, 0, api.OK
}
