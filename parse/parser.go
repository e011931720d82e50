package parse

import "touchmark/api"

// parser goes through the tokens of a source. With its first fault it loses those that are left: every part of the grammar that it is in then finds nothing more, and ends, so that none of them has to ask for a fault.
type parser struct {
	left  []api.Token
	end   int // of the source
	open  int // how many parentheses, and prefixes not and -, are open
	fault api.Fault
}

// fail notes that the next token may not stand where it stands.
func (p *parser) fail(e api.Errno) {
	switch {
	case p.fault.E != api.OK:
	case len(p.left) == 0:
		p.fault = api.Fault{E: api.ErrShort, At: p.end}
	default:
		p.fault = api.Fault{E: e, At: p.left[0].At}
		p.left = nil
	}
}

// peek returns the token that is n behind the next one, or one of no kind where there is none.
func (p *parser) peek(n int) api.Token {
	if n < len(p.left) {
		return p.left[n]
	}
	return api.Token{}
}

// sees returns whether a keyword or symbol is next. Its bytes tell: a name is no keyword, and a string has quotes.
func (p *parser) sees(bytes string) bool {
	return p.peek(0).Text == bytes
}

// take goes past the next token, if there is one.
func (p *parser) take() {
	p.left = p.left[min(1, len(p.left)):]
}

// accept goes past a keyword or symbol, if it is next.
func (p *parser) accept(bytes string) bool {
	if !p.sees(bytes) {
		return false
	}
	p.take()
	return true
}

// expect goes past a keyword or symbol, which must be next.
func (p *parser) expect(bytes string) {
	if !p.accept(bytes) {
		p.fail(api.ErrForm)
	}
}

// need returns the next token, which must be of a kind, and leaves it there.
func (p *parser) need(kind int) api.Token {
	t := p.peek(0)
	if t.Kind != kind {
		p.fail(api.ErrForm)
		return api.Token{}
	}
	return t
}

func (p *parser) name() string {
	t := p.need(api.TokName)
	p.take()
	return t.Text
}

// number returns the value of a number that has no - ahead of it.
func (p *parser) number() int64 {
	t := p.need(api.TokNumber)
	if t.N < 0 { // 2^63, which package scan tells as the minimum
		p.fail(api.ErrRange)
	}
	p.take()
	return t.N
}

// within parses a part of the grammar while the next token, which it goes past, is open.
func within[T any](p *parser, part func() T) T {
	if p.open == api.MaxOpen {
		p.fail(api.ErrDeep)
	}
	p.take()
	p.open++
	tree := part()
	p.open--
	return tree
}

// inParens parses a part of the grammar that stands in parentheses.
func inParens[T any](p *parser, part func() T) T {
	if !p.sees("(") {
		p.fail(api.ErrForm)
	}
	tree := within(p, part)
	p.expect(")")
	return tree
}

// list parses the elements of a list with commas.
func list[T any](p *parser, element func() T) []T {
	l := []T{element()}
	for p.accept(",") {
		l = append(l, element())
	}
	return l
}

// listInParens parses a list with commas that stands in parentheses.
func listInParens[T any](p *parser, element func() T) []T {
	return inParens(p, func() []T { return list(p, element) })
}

// clause parses an expression that stands behind a keyword: none or one.
func (p *parser) clause(keyword string) []api.Expr {
	if !p.accept(keyword) {
		return nil
	}
	return []api.Expr{p.expr()}
}
