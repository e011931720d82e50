package mean_test

import (
	"math/big"
	"slices"
	"testing"

	"touchmark/api"
	"touchmark/names"
	"touchmark/value"
)

// model evaluates by the chapter's words, one after the other: a bag is a list of all its rows, in any order.
type model struct {
	api.State
	errors []api.Errno
}

func (m *model) error() api.Errno {
	if len(m.errors) == 0 {
		return api.OK
	}
	return slices.Min(m.errors)
}

func (m *model) failed(e api.Errno) {
	if e != api.OK {
		m.errors = append(m.errors, e)
	}
}

func (m *model) term(t api.Term, r api.Row) api.Value {
	switch {
	case t.Op == api.OpValue:
		return t.Value
	case t.Op == api.OpColumn:
		for i, v := range r {
			if i == t.Col {
				return v
			}
		}
		return null
	case arity(t.Op) == 0:
		m.failed(api.ErrArg)
		return null
	}
	args := m.terms(t.Args, r)
	if len(args) != arity(t.Op) {
		m.failed(api.ErrArg)
		return null
	}
	args = append(args, null)
	v, e := value.Do(t.Op, args[0], args[1])
	m.failed(e)
	if e != api.OK {
		return null
	}
	return v
}

func (m *model) terms(l []api.Term, r api.Row) api.Row {
	var values api.Row
	for _, t := range l {
		values = append(values, m.term(t, r))
	}
	return values
}

func (m *model) isTrue(t api.Term, r api.Row) bool { return tellValue(m.term(t, r)) == "true" }

func (m *model) table(name string) (api.Table, []api.Row) {
	var rows []api.Row
	for i, t := range m.Tables {
		if t.Name != name {
			continue
		}
		for _, r := range m.Rows[i] {
			for range r.Count {
				rows = append(rows, r.Row)
			}
		}
		return t, rows
	}
	panic("no table")
}

// width returns how many columns a plan has.
func (m *model) width(p api.Plan) int {
	switch p.Op {
	case api.PlanScan, api.PlanSeek:
		t, _ := m.table(p.Table)
		return len(t.Columns)
	case api.PlanProject, api.PlanGroup:
		return len(p.Terms) + len(p.Aggs)
	case api.PlanJoin, api.PlanLeft:
		return m.width(p.Args[0]) + m.width(p.Args[1])
	}
	return m.width(p.Args[0])
}

func isSame(a, b api.Row) bool { return value.CompareRows(a, b) == 0 }

func times(l []api.Row, r api.Row) int {
	n := 0
	for _, x := range l {
		if isSame(x, r) {
			n++
		}
	}
	return n
}

// different returns the rows of a list, each once.
func different(l []api.Row) []api.Row {
	var once []api.Row
	for _, r := range l {
		if times(once, r) == 0 {
			once = append(once, r)
		}
	}
	return once
}

func (m *model) rows(p api.Plan) []api.Row {
	var args [][]api.Row
	for _, a := range p.Args {
		args = append(args, m.rows(a))
	}
	var l []api.Row
	switch p.Op {
	case api.PlanScan:
		_, l = m.table(p.Table)
	case api.PlanSeek:
		t, rows := m.table(p.Table)
		low, high := p.Terms[0].Value, p.Terms[1].Value
		for _, r := range rows {
			k := r[t.Key]
			if (low == null || value.Compare(k, low) != -1) && (high == null || value.Compare(k, high) != 1) {
				l = append(l, r)
			}
		}
	case api.PlanSelect:
		for _, r := range args[0] {
			if m.isTrue(p.Terms[0], r) {
				l = append(l, r)
			}
		}
	case api.PlanProject:
		for _, r := range args[0] {
			l = append(l, m.terms(p.Terms, r))
		}
	case api.PlanJoin, api.PlanLeft, api.PlanSemi, api.PlanAnti:
		return m.joined(p, args[0], args[1])
	case api.PlanGroup:
		return m.groups(p, args[0])
	case api.PlanUnion:
		l = slices.Concat(args[0], args[1])
	case api.PlanExcept:
		for _, r := range different(args[0]) {
			for range times(args[0], r) - times(args[1], r) {
				l = append(l, r)
			}
		}
	case api.PlanDistinct:
		l = different(args[0])
	case api.PlanSort:
		l = inOrder(args[0], func(a, b api.Row) bool { return isAhead(p.Keys, a, b) })
	case api.PlanLimit:
		for i, r := range args[0] {
			if int64(i) < p.N {
				l = append(l, r)
			}
		}
	}
	return l
}

func (m *model) joined(p api.Plan, left, right []api.Row) []api.Row {
	var pairs, with, without, padded []api.Row
	for _, a := range left {
		n := len(pairs)
		for _, b := range right {
			if both := slices.Concat(a, b); m.isTrue(p.Terms[0], both) {
				pairs = append(pairs, both)
			}
		}
		if len(pairs) > n {
			with = append(with, a)
		} else {
			without = append(without, a)
			padded = append(padded, append(slices.Clone(a), make(api.Row, m.width(p.Args[1]))...))
		}
	}
	switch p.Op {
	case api.PlanJoin:
		return pairs
	case api.PlanLeft:
		return append(pairs, padded...)
	case api.PlanSemi:
		return with
	}
	return without
}

func (m *model) groups(p api.Plan, rows []api.Row) []api.Row {
	var keys []api.Row
	args := make([][]api.Row, len(p.Aggs)) // of each of Aggs, the values for all rows
	for _, r := range rows {
		keys = append(keys, m.terms(p.Terms, r))
		for i, a := range p.Aggs {
			args[i] = append(args[i], append(m.terms(a.Args, r), null))
		}
	}
	groups := different(keys)
	if len(p.Terms) == 0 {
		groups = []api.Row{nil}
	}
	var l []api.Row
	for _, g := range groups {
		r := slices.Clone(g)
		for i, a := range p.Aggs {
			var values []api.Value
			for k := range rows {
				if isSame(keys[k], g) {
					values = append(values, args[i][k][0])
				}
			}
			v, e := value.Fold(a.Op, values)
			m.failed(e)
			r = append(r, v)
		}
		l = append(l, r)
	}
	return l
}

func isAhead(keys []api.Key, a, b api.Row) bool {
	for _, k := range keys {
		c := value.Compare(a[k.Col], b[k.Col])
		if c != 0 {
			return (c < 0) != k.Down
		}
	}
	return value.CompareRows(a, b) < 0
}

// inOrder returns rows in an order.
func inOrder(l []api.Row, ahead func(a, b api.Row) bool) []api.Row {
	l = slices.Clone(l)
	slices.SortFunc(l, func(a, b api.Row) int {
		switch {
		case ahead(a, b):
			return -1
		case ahead(b, a):
			return 1
		}
		return 0
	})
	return l
}

// modelRun is Run of a valid state and a plan without an error of its form.
func modelRun(s api.State, p api.Plan) ([]api.Row, api.Errno) {
	m := model{State: s}
	rows := m.rows(p)
	if p.Op != api.PlanSort && p.Op != api.PlanLimit {
		rows = inOrder(rows, func(a, b api.Row) bool { return value.CompareRows(a, b) < 0 })
	}
	if m.error() != api.OK {
		return nil, m.error()
	}
	return rows, api.OK
}

// modelMay is May by the chapter's words; whether the tables are valid is chapter 12's.
func modelMay(s api.State) bool {
	if names.Statement(s.Tables, 0, api.Statement{Op: api.DoAbort}) == api.ErrArg || len(s.Tables) != len(s.Rows) {
		return false
	}
	for i, t := range s.Tables {
		sum := big.NewInt(0)
		for k, r := range s.Rows[i] {
			if !modelMayRow(t, r) {
				return false
			}
			sum.Add(sum, big.NewInt(r.Count))
			for _, other := range s.Rows[i][:k] {
				if value.CompareRows(other.Row, r.Row) != -1 || t.Key >= 0 && other.Row[t.Key] == r.Row[t.Key] {
					return false
				}
			}
		}
		if sum.Cmp(big.NewInt(api.MaxRows)) > 0 {
			return false
		}
	}
	return true
}

func modelMayRow(t api.Table, r api.Counted) bool {
	if len(r.Row) != len(t.Columns) || r.Count < 1 || t.Key >= 0 && r.Count != 1 {
		return false
	}
	for i, c := range t.Columns {
		v := r.Row[i]
		if !value.May(v) || v.Kind != c.Kind && !(c.Nullable && v == null) {
			return false
		}
	}
	return true
}

// wantEnough asks for enough cases of each error, without which a test would tell little.
func wantEnough(t *testing.T, n map[api.Errno]int, each int, l ...api.Errno) {
	t.Helper()
	for _, e := range l {
		if n[e] < each {
			t.Errorf("error %d: %d cases alone", e, n[e])
		}
	}
	t.Logf("%v", n)
}
