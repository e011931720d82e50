package parse

import "touchmark/api"

func (p *parser) query() api.Query {
	q := p.body()
	if p.accept("order") {
		p.expect("by")
		q.Order = list(p, p.key)
	}
	if p.accept("limit") {
		q.Limited, q.Limit = true, p.number()
	}
	return q
}

func (p *parser) key() api.Order {
	return api.Order{Expr: p.expr(), Down: p.accept("desc")}
}

func (p *parser) body() api.Query {
	q := p.unit()
	for {
		var op int
		switch {
		case p.accept("union"):
			op = api.QueryUnion
		case p.accept("except"):
			op = api.QueryExcept
		default:
			return q
		}
		p.expect("all")
		q = api.Query{Op: op, Parts: []api.Query{q, p.unit()}}
	}
}

func (p *parser) unit() api.Query {
	if p.sees("(") {
		return inParens(p, p.body)
	}
	return api.Query{Op: api.QuerySelect, Select: p.selects()}
}

func (p *parser) selects() api.Select {
	p.expect("select")
	s := api.Select{Distinct: p.accept("distinct"), Items: list(p, p.item)}
	p.expect("from")
	s.From = p.sources()
	s.Where = p.clause("where")
	if p.accept("group") {
		p.expect("by")
		s.Group = list(p, p.expr)
	}
	s.Having = p.clause("having")
	return s
}

func (p *parser) item() api.Item {
	if p.accept("*") {
		return api.Item{Star: true}
	}
	i := api.Item{Expr: p.expr()}
	if p.accept("as") {
		i.Name = p.name()
	}
	return i
}

func (p *parser) sources() []api.Source {
	l := []api.Source{p.source()}
	for {
		kind := api.SourceJoin
		if p.accept("left") {
			kind = api.SourceLeft
		} else if !p.sees("join") {
			return l
		}
		p.expect("join")
		s := p.source()
		p.expect("on")
		s.Kind, s.On = kind, []api.Expr{p.expr()}
		l = append(l, s)
	}
}

// source parses a source without what joins it to those ahead of it.
func (p *parser) source() api.Source {
	if p.sees("(") {
		s := api.Source{Query: p.bodyInParens()}
		p.expect("as")
		s.As = p.name()
		return s
	}
	s := api.Source{Table: p.name()}
	if p.accept("as") {
		s.As = p.name()
	}
	return s
}

func (p *parser) bodyInParens() []api.Query {
	return []api.Query{inParens(p, p.body)}
}
