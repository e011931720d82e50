package mean

import (
	"touchmark/api"
	"touchmark/names"
	"touchmark/value"
)

// May returns whether a state is valid.
func May(s api.State) bool {
	// A statement without names has no error but that of the tables.
	if names.Statement(s.Tables, 0, api.Statement{Op: api.DoCommit}) != api.OK || len(s.Rows) != len(s.Tables) {
		return false
	}
	for i, t := range s.Tables {
		if !areRows(t, s.Rows[i]) {
			return false
		}
	}
	return true
}

// areRows returns whether a list of rows is one that a table can have.
func areRows(t api.Table, l []api.Counted) bool {
	total := int64(0)
	for i, r := range l {
		// What is left is held against the count, since a sum of great counts could wrap round.
		if r.Count < 1 || r.Count > api.MaxRows-total || !isRow(t, r.Row) {
			return false
		}
		if i > 0 && value.CompareRows(l[i-1].Row, r.Row) >= 0 {
			return false
		}
		total += r.Count
	}
	return t.Key < 0 || areKeys(t.Key, l)
}

// isRow returns whether a row has the values of a table's columns.
func isRow(t api.Table, r api.Row) bool {
	if len(r) != len(t.Columns) {
		return false
	}
	for i, v := range r {
		c := t.Columns[i]
		if !value.May(v) || v.Kind != c.Kind && (v.Kind != api.Null || !c.Nullable) {
			return false
		}
	}
	return true
}

// areKeys returns whether valid rows, each of them there once, have different values in a column.
func areKeys(column int, l []api.Counted) bool {
	seen := make(map[api.Value]struct{}, len(l))
	for _, r := range l {
		if r.Count > 1 {
			return false
		}
		seen[r.Row[column]] = struct{}{}
	}
	return len(seen) == len(l)
}
