package rules

import (
	"slices"

	"touchmark/api"
)

// each returns what a function makes of the elements of a list.
func each[A, B any](l []A, f func(A) B) []B {
	made := slices.Grow([]B(nil), len(l))
	for _, x := range l {
		made = append(made, f(x))
	}
	return made
}

// mapped returns a term with other terms in the place of its columns.
func mapped(t api.Term, column func(i int) api.Term) api.Term {
	if t.Op == api.OpColumn {
		return column(t.Col)
	}
	t.Args = each(t.Args, func(a api.Term) api.Term { return mapped(a, column) })
	return t
}

// substituted returns a term with the terms of a list in the place of its columns.
func substituted(t api.Term, l []api.Term) api.Term {
	return mapped(t, func(i int) api.Term { return l[i] })
}

// renumbered returns a term over the same columns, with other numbers.
func renumbered(t api.Term, number func(i int) int) api.Term {
	return mapped(t, func(i int) api.Term { return api.Term{Op: api.OpColumn, Col: number(i)} })
}

// refersOnly returns whether all columns of a term have numbers from one on, and less than another one.
func refersOnly(t api.Term, from, to int) bool {
	if t.Op == api.OpColumn {
		return t.Col >= from && t.Col < to
	}
	return all(t.Args, func(a api.Term) bool { return refersOnly(a, from, to) })
}
