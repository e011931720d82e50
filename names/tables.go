package names

import (
	"slices"

	"touchmark/api"
	"touchmark/scan"
)

// tables are those that a query can name, views among them.
type tables []api.Table

// table returns the table with a name, or ErrName.
func (t tables) table(name string) (api.Table, api.Errno) {
	return only(t, func(x api.Table) bool { return x.Name == name })
}

func areValid(t tables) bool {
	return all(t, isValid) && !repeat(t, func(x api.Table) string { return x.Name })
}

func isValid(t api.Table) bool {
	return scan.Name(t.Name) &&
		len(t.Columns) > 0 && len(t.Columns) <= api.MaxColumns &&
		all(t.Columns, isColumn) && !repeat(t.Columns, nameOf) && hasKey(t)
}

func isColumn(c api.Column) bool {
	return scan.Name(c.Name) && (c.Kind == api.Int || c.Kind == api.Text || c.Kind == api.Bool)
}

func nameOf(c api.Column) string { return c.Name }

// hasKey returns whether a table's key is none, or a column that can be one.
func hasKey(t api.Table) bool {
	if t.Key < 0 || t.Key >= len(t.Columns) {
		return t.Key == -1
	}
	return !t.Columns[t.Key].Nullable
}

func all[T any](l []T, ok func(T) bool) bool {
	return !slices.ContainsFunc(l, func(x T) bool { return !ok(x) })
}

// repeat returns whether two elements have the same name. There may be a great many of them, too many to hold each against each.
func repeat[T any](l []T, name func(T) string) bool {
	seen := make(map[string]struct{}, len(l))
	for _, x := range l {
		seen[name(x)] = struct{}{}
	}
	return len(seen) < len(l)
}

// only returns the element that fits: ErrName if none does, ErrTwice if several do.
func only[T any](l []T, fits func(T) bool) (T, api.Errno) {
	var none T
	i := slices.IndexFunc(l, fits)
	if i < 0 {
		return none, api.ErrName
	}
	if slices.ContainsFunc(l[i+1:], fits) {
		return none, api.ErrTwice
	}
	return l[i], api.OK
}
