package print

import "touchmark/api"

// fields are those of a statement that its Op requires; Where is the one that can be left out nevertheless.
type fields struct{ name, table, query, rows, sets, where bool }

var statements = [...]fields{
	api.DoQuery:  {query: true},
	api.DoTable:  {table: true},
	api.DoView:   {name: true, query: true},
	api.DoInsert: {name: true, rows: true},
	api.DoDelete: {name: true, where: true},
	api.DoUpdate: {name: true, sets: true, where: true},
	api.DoCommit: {},
	api.DoAbort:  {},
}

func (c *checker) statement(s api.Statement) {
	var has fields
	if s.Op >= api.DoQuery && s.Op <= api.DoAbort {
		has = statements[s.Op]
	} else {
		c.require(false)
	}
	if has.name {
		c.name(s.Name)
	} else {
		c.require(s.Name == "")
	}
	if has.table {
		c.table(s.Table)
	} else {
		c.require(s.Table.Name == "" && len(s.Table.Columns) == 0 && s.Table.Key == 0)
	}
	if has.query {
		c.query(s.Query)
	} else {
		c.require(Same(s.Query, api.Query{}))
	}
	c.require(has.rows == (len(s.Rows) > 0))
	each(s.Rows, c.row)
	c.require(has.sets == (len(s.Sets) > 0))
	each(s.Sets, c.set)
	c.require(has.where || len(s.Where) == 0)
	c.clause(s.Where)
}

func (c *checker) table(t api.Table) {
	c.name(t.Name)
	c.require(len(t.Columns) > 0)
	each(t.Columns, c.column)
	if t.Key >= 0 && t.Key < len(t.Columns) {
		c.require(!t.Columns[t.Key].Nullable)
	} else {
		c.require(t.Key == -1)
	}
}

func (c *checker) column(x api.Column) {
	c.nodes++
	c.name(x.Name)
	c.require(x.Kind == api.Int || x.Kind == api.Text || x.Kind == api.Bool)
}

func (c *checker) row(l []api.Expr) {
	c.nodes++
	c.require(len(l) > 0)
	each(l, c.expr)
}

func (c *checker) set(s api.Set) {
	c.nodes++
	c.name(s.Name)
	c.expr(s.Expr)
}

var kinds = [...]string{api.Int: "int", api.Text: "text", api.Bool: "bool"}

func (w *writer) statement(s api.Statement) {
	switch s.Op {
	case api.DoQuery:
		w.query(s.Query)
	case api.DoTable:
		w.table(s.Table)
	case api.DoView:
		w.put("create view", s.Name, "as")
		w.query(s.Query)
	case api.DoInsert:
		w.put("insert into", s.Name, "values")
		list(w, s.Rows, w.row)
	case api.DoDelete:
		w.put("delete from", s.Name)
		w.clause("where", s.Where)
	case api.DoUpdate:
		w.put("update", s.Name, "set")
		list(w, s.Sets, w.set)
		w.clause("where", s.Where)
	case api.DoCommit:
		w.put("commit")
	case api.DoAbort:
		w.put("abort")
	}
}

func (w *writer) table(t api.Table) {
	w.put("create table", t.Name)
	n := 0
	w.inParens(func() {
		list(w, t.Columns, func(c api.Column) {
			w.column(c, n == t.Key)
			n++
		})
	})
}

func (w *writer) column(c api.Column, key bool) {
	w.put(c.Name, kinds[c.Kind])
	switch {
	case key:
		w.put("primary key")
	case !c.Nullable:
		w.put("not null")
	}
}

func (w *writer) row(l []api.Expr) {
	w.inParens(func() { list(w, l, w.expr) })
}

func (w *writer) set(s api.Set) {
	w.put(s.Name, "=")
	w.expr(s.Expr)
}
