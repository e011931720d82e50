package plan

import (
	"slices"
	"strings"

	"touchmark/api"
)

// column is what a column is called, by itself and with its source.
type column struct{ source, name string }

// scope is the columns of a plan, in order.
type scope []column

// index returns the number of the column to which a name refers, or -1.
func (s scope) index(x api.Expr) int {
	return slices.IndexFunc(s, func(c column) bool {
		return c.name == x.Name && (x.Table == "" || c.source == x.Table)
	})
}

// reader returns how expressions over these columns are read.
func (s scope) reader() reader { return sight{own: s}.column }

// sight is the columns to which names can refer: those of a query's own scope and, if it is one of exists or in, those of the scope around it. These come first in a row.
type sight struct{ own, around scope }

func (s sight) column(x api.Expr) (int, bool) {
	if x.Op != api.OpName {
		return 0, false
	}
	if i := s.own.index(x); i >= 0 {
		return len(s.around) + i, true
	}
	return s.around.index(x), true
}

// reader returns the number of the column that an expression is, or false if it is none.
type reader func(api.Expr) (int, bool)

// term returns an expression as a term.
func (r reader) term(x api.Expr) api.Term {
	if i, ok := r(x); ok {
		return toColumn(i)
	}
	v := x.Value
	v.S = strings.Clone(v.S)
	return api.Term{Op: x.Op, Value: v, Args: r.terms(x.Args)}
}

func (r reader) terms(l []api.Expr) []api.Term {
	var terms []api.Term
	for _, x := range l {
		terms = append(terms, r.term(x))
	}
	return terms
}

func toColumn(i int) api.Term { return api.Term{Op: api.OpColumn, Col: i} }
