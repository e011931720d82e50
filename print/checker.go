package print

import (
	"touchmark/api"
	"touchmark/scan"
	"touchmark/value"
)

// checker goes through a tree once, and notes of each error whether it is there: which of them is the first one is known only at the end.
type checker struct {
	open  int // how many expressions and queries it is in
	nodes int

	deep, malformed, misnamed, invalid bool
}

// first returns the first of the errors that were noted.
func (c *checker) first() api.Errno {
	switch {
	case c.deep:
		return api.ErrDeep
	case c.nodes > api.MaxNodes:
		return api.ErrMany
	case c.malformed:
		return api.ErrForm
	case c.misnamed:
		return api.ErrName
	case c.invalid:
		return api.ErrKind
	}
	return api.OK
}

// require notes whether a part has the form that it must have.
func (c *checker) require(ok bool) {
	c.malformed = c.malformed || !ok
}

func (c *checker) name(s string) {
	c.misnamed = c.misnamed || !scan.Name(s)
}

// optional checks a name that can be left out.
func (c *checker) optional(s string) {
	if s != "" {
		c.name(s)
	}
}

// within checks an expression or a query. After one that is too deep nothing is gone into any more, since no other error is ahead of that one.
func (c *checker) within(part func()) {
	c.nodes++
	c.open++
	c.deep = c.deep || c.open > api.MaxDepth
	if !c.deep {
		part()
	}
	c.open--
}

func each[T any](l []T, check func(T)) {
	for _, x := range l {
		check(x)
	}
}

func (c *checker) expr(x api.Expr) {
	c.within(func() {
		c.require(hasForm(x))
		switch x.Op {
		case api.OpValue:
			c.invalid = c.invalid || !value.May(x.Value)
		case api.OpName:
			c.optional(x.Table)
			c.name(x.Name)
		}
		each(x.Args, c.expr)
		each(x.Query, c.inner)
	})
}

// hasForm returns whether an expression has the fields that its Op requires, and no others.
func hasForm(x api.Expr) bool {
	args, queries, ok := parts(x.Op)
	return ok && len(x.Args) == args && len(x.Query) == queries &&
		(x.Op == api.OpValue || x.Value == api.Value{}) &&
		(x.Op == api.OpName || x.Table == "" && x.Name == "")
}

func (c *checker) query(q api.Query) {
	c.within(func() {
		c.require(q.Limit == 0 || q.Limited && q.Limit > 0)
		switch q.Op {
		case api.QuerySelect:
			c.require(len(q.Parts) == 0 && len(q.Select.Items) > 0 && len(q.Select.From) > 0)
		case api.QueryUnion, api.QueryExcept:
			c.require(len(q.Parts) == 2 && sameSelect(q.Select, api.Select{}))
		default:
			c.require(false)
		}
		each(q.Parts, c.inner)
		c.selects(q.Select)
		each(q.Order, c.order)
	})
}

// inner checks a query that is not the outermost one.
func (c *checker) inner(q api.Query) {
	c.require(len(q.Order) == 0 && !q.Limited)
	c.query(q)
}

func (c *checker) selects(s api.Select) {
	each(s.Items, c.item)
	for i, x := range s.From {
		c.joins(i == 0, x)
		c.source(x)
	}
	c.clause(s.Where)
	each(s.Group, c.expr)
	c.clause(s.Having)
}

// clause checks an expression that can be left out.
func (c *checker) clause(l []api.Expr) {
	c.require(len(l) <= 1)
	each(l, c.expr)
}

func (c *checker) item(i api.Item) {
	c.nodes++
	c.optional(i.Name)
	if i.Star && sameExpr(i.Expr, api.Expr{}) { // this is no expression, and counts as none
		c.require(i.Name == "")
		return
	}
	c.require(!i.Star)
	c.expr(i.Expr)
}

// joins checks what a source is joined by to those ahead of it.
func (c *checker) joins(first bool, s api.Source) {
	if first {
		c.require(s.Kind == api.SourceFirst && len(s.On) == 0)
		return
	}
	c.require((s.Kind == api.SourceJoin || s.Kind == api.SourceLeft) && len(s.On) == 1)
}

func (c *checker) source(s api.Source) {
	c.nodes++
	if len(s.Query) == 0 {
		c.name(s.Table)
	} else {
		c.require(s.Table == "" && len(s.Query) == 1 && s.As != "")
	}
	c.optional(s.As)
	each(s.Query, c.inner)
	each(s.On, c.expr)
}

func (c *checker) order(o api.Order) {
	c.nodes++
	c.expr(o.Expr)
}
