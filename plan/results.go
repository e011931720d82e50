package plan

import (
	"slices"

	"touchmark/api"
)

func (t tables) table(name string) (api.Table, api.Errno) {
	i := slices.IndexFunc(t, func(x api.Table) bool { return x.Name == name })
	if i < 0 {
		return api.Table{}, api.ErrName
	}
	return t[i], api.OK
}

func (t tables) scan(p api.Plan, _ []columns) (columns, api.Errno) {
	x, e := t.table(p.Table)
	return slices.Clone(x.Columns), e
}

func (t tables) seek(p api.Plan, _ []columns) (columns, api.Errno) {
	if slices.ContainsFunc(p.Terms, func(x api.Term) bool { return x.Op != api.OpValue }) {
		return nil, api.ErrForm
	}
	x, e := t.table(p.Table)
	if e != api.OK {
		return nil, e
	}
	if x.Key < 0 {
		return nil, api.ErrPlace
	}
	bounds, e := columns(nil).terms(p.Terms)
	if e != api.OK {
		return nil, e
	}
	key := x.Columns[x.Key]
	if slices.ContainsFunc(bounds, func(c api.Column) bool { return !agree(c.Kind, key.Kind) }) {
		return nil, api.ErrKind
	}
	return slices.Clone(x.Columns), api.OK
}

// under makes the result of plans with a condition over the columns of all their Args, given what becomes of these.
func under(become func(args []columns) columns) func(api.Plan, []columns) (columns, api.Errno) {
	return func(p api.Plan, args []columns) (columns, api.Errno) {
		is, e := joint(args).term(p.Terms[0])
		if e != api.OK {
			return nil, e
		}
		if !agree(is.Kind, api.Bool) {
			return nil, api.ErrKind
		}
		return become(args), api.OK
	}
}

func first(args []columns) columns { return args[0] }

func joint(args []columns) columns { return slices.Concat(args...) }

// padded returns the columns of a join whose right ones are NULL where nothing is joined.
func padded(args []columns) columns {
	for i := range args[1] {
		args[1][i].Nullable = true
	}
	return joint(args)
}

func projected(p api.Plan, args []columns) (columns, api.Errno) {
	return args[0].terms(p.Terms)
}

func grouped(p api.Plan, args []columns) (columns, api.Errno) {
	if len(p.Terms)+len(p.Aggs) == 0 {
		return nil, api.ErrForm
	}
	l, e := args[0].terms(p.Terms)
	if e != api.OK {
		return nil, e
	}
	for _, a := range p.Aggs {
		is, e := args[0].agg(a)
		if e != api.OK {
			return nil, e
		}
		l = append(l, is)
	}
	return l, api.OK
}

// united returns the columns of two plans with the same ones, in the place of the left one's.
func united(_ api.Plan, args []columns) (columns, api.Errno) {
	l, right := args[0], args[1]
	if len(l) != len(right) {
		return nil, api.ErrCount
	}
	for i, c := range right {
		if !agree(l[i].Kind, c.Kind) {
			return nil, api.ErrKind
		}
		if l[i].Kind == api.Null {
			l[i].Kind = c.Kind
		}
		l[i].Nullable = l[i].Nullable || c.Nullable
	}
	return l, api.OK
}

func same(_ api.Plan, args []columns) (columns, api.Errno) { return args[0], api.OK }

func sorted(p api.Plan, args []columns) (columns, api.Errno) {
	if slices.ContainsFunc(p.Keys, func(k api.Key) bool { return !args[0].has(k.Col) }) {
		return nil, api.ErrRange
	}
	return args[0], api.OK
}

func limited(p api.Plan, args []columns) (columns, api.Errno) {
	if p.Args[0].Op != api.PlanSort || p.N < 0 {
		return nil, api.ErrForm
	}
	return args[0], api.OK
}
