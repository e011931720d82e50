package parse

import "touchmark/api"

// statements returns the parts of the grammar that are statements, by their first keyword. A query is the one that can begin otherwise.
func statements() map[string]func(*parser) api.Statement {
	return map[string]func(*parser) api.Statement{
		"create": (*parser).create,
		"insert": (*parser).insert,
		"delete": (*parser).delete,
		"update": (*parser).update,
		"commit": (*parser).commit,
		"abort":  (*parser).abort,
	}
}

func (p *parser) statement() api.Statement {
	if part, ok := statements()[p.peek(0).Text]; ok {
		p.take()
		return part(p)
	}
	return api.Statement{Op: api.DoQuery, Query: p.query()}
}

func (p *parser) create() api.Statement {
	if p.accept("view") {
		s := api.Statement{Op: api.DoView, Name: p.name()}
		p.expect("as")
		s.Query = p.query()
		return s
	}
	p.expect("table")
	return api.Statement{Op: api.DoTable, Table: p.table()}
}

func (p *parser) table() api.Table {
	t := api.Table{Name: p.name(), Key: -1}
	n := 0
	t.Columns = listInParens(p, func() api.Column {
		c := p.column()
		if p.primaryKey(t.Key >= 0) {
			t.Key = n
			c.Nullable = false
		}
		n++
		return c
	})
	return t
}

// column parses a column up to where primary key can stand.
func (p *parser) column() api.Column {
	c := api.Column{Name: p.name(), Kind: p.kind(), Nullable: true}
	if p.accept("not") {
		p.expect("null")
		c.Nullable = false
	}
	return c
}

func (p *parser) kind() int {
	switch {
	case p.accept("int"):
		return api.Int
	case p.accept("text"):
		return api.Text
	case p.accept("bool"):
		return api.Bool
	}
	p.fail(api.ErrForm)
	return api.Null
}

// primaryKey goes past primary key, if that is next; it must not be, where the table has a key already.
func (p *parser) primaryKey(twice bool) bool {
	if !p.sees("primary") {
		return false
	}
	if twice {
		p.fail(api.ErrTwice)
	}
	p.take()
	p.expect("key")
	return true
}

func (p *parser) insert() api.Statement {
	p.expect("into")
	s := api.Statement{Op: api.DoInsert, Name: p.name()}
	p.expect("values")
	s.Rows = list(p, p.row)
	return s
}

func (p *parser) row() []api.Expr {
	return listInParens(p, p.expr)
}

func (p *parser) delete() api.Statement {
	p.expect("from")
	return api.Statement{Op: api.DoDelete, Name: p.name(), Where: p.clause("where")}
}

func (p *parser) update() api.Statement {
	s := api.Statement{Op: api.DoUpdate, Name: p.name()}
	p.expect("set")
	s.Sets = list(p, p.set)
	s.Where = p.clause("where")
	return s
}

func (p *parser) set() api.Set {
	s := api.Set{Name: p.name()}
	p.expect("=")
	s.Expr = p.expr()
	return s
}

func (p *parser) commit() api.Statement {
	return api.Statement{Op: api.DoCommit}
}

func (p *parser) abort() api.Statement {
	return api.Statement{Op: api.DoAbort}
}
