package print

import (
	"strconv"

	"touchmark/api"
)

var unions = [...]string{api.QueryUnion: "union all", api.QueryExcept: "except all"}

var joins = [...]string{api.SourceJoin: "join", api.SourceLeft: "left join"}

func (w *writer) query(q api.Query) {
	w.body(q)
	if len(q.Order) > 0 {
		w.put("order by")
		list(w, q.Order, w.key)
	}
	if q.Limited {
		w.put("limit", strconv.FormatInt(q.Limit, 10))
	}
}

func (w *writer) key(o api.Order) {
	w.expr(o.Expr)
	if o.Down {
		w.put("desc")
	}
}

// body writes a query as a sequence, which associates to the left.
func (w *writer) body(q api.Query) {
	if q.Op == api.QuerySelect {
		w.selects(q.Select)
		return
	}
	w.body(q.Parts[0])
	w.put(unions[q.Op])
	w.unit(q.Parts[1])
}

// unit writes a query that is not the first one of a sequence.
func (w *writer) unit(q api.Query) {
	if q.Op == api.QuerySelect {
		w.selects(q.Select)
		return
	}
	w.inner(q)
}

// inner writes a query in parentheses.
func (w *writer) inner(q api.Query) {
	w.inParens(func() { w.body(q) })
}

func (w *writer) selects(s api.Select) {
	w.put("select")
	if s.Distinct {
		w.put("distinct")
	}
	list(w, s.Items, w.item)
	w.put("from")
	for _, x := range s.From {
		w.source(x)
	}
	w.clause("where", s.Where)
	w.clause("group by", s.Group)
	w.clause("having", s.Having)
}

func (w *writer) item(i api.Item) {
	if i.Star {
		w.put("*")
		return
	}
	w.expr(i.Expr)
	w.as(i.Name)
}

func (w *writer) source(s api.Source) {
	if s.Kind != api.SourceFirst {
		w.put(joins[s.Kind])
	}
	if s.Table != "" {
		w.put(s.Table)
	} else {
		w.inner(s.Query[0])
	}
	w.as(s.As)
	w.clause("on", s.On)
}

// as writes a name behind what it names, if there is one.
func (w *writer) as(name string) {
	if name != "" {
		w.put("as", name)
	}
}
