package names_test

import (
	"strconv"
	"strings"
	"testing"

	"touchmark/api"
	"touchmark/names"
)

// wantTables asks both functions whether a list of tables is valid.
func wantTables(t *testing.T, what string, l []api.Table, want api.Errno) {
	t.Helper()
	q := query(t, "select 1 from t")
	if _, e := names.Query(l, q); e != want {
		t.Errorf("%s: Query: %d, not %d", what, e, want)
	}
	if e := names.Statement(l, 0, api.Statement{Op: api.DoQuery, Query: q}); e != want {
		t.Errorf("%s: Statement: %d, not %d", what, e, want)
	}
	other := query(t, "select nosuch from nosuch where 1")
	if _, e := names.Query(l, other); want == api.ErrArg && e != want {
		t.Errorf("%s: Query of what is wrong: %d", what, e)
	}
	if _, e := names.Query(l, api.Query{}); e != api.ErrForm {
		t.Errorf("%s: Query of nothing: %d", what, e)
	}
}

// P12.1, P12.3: which lists of tables are valid.
func TestTables(t *testing.T) {
	wantTables(t, "three tables", tables(), api.OK)
	wantTables(t, "no tables", nil, api.ErrName)
	for what, change := range map[string]func(l []api.Table){
		"a name twice":             func(l []api.Table) { l[2].Name = "t" },
		"another name twice":       func(l []api.Table) { l[2].Name = "u" },
		"no name":                  func(l []api.Table) { l[1].Name = "" },
		"a keyword":                func(l []api.Table) { l[1].Name = "select" },
		"a large letter":           func(l []api.Table) { l[2].Name = "W" },
		"a digit first":            func(l []api.Table) { l[0].Name = "1t" },
		"a name that is too long":  func(l []api.Table) { l[2].Name = strings.Repeat("w", 17) },
		"no columns":               func(l []api.Table) { l[1].Columns = nil },
		"no columns, first":        func(l []api.Table) { l[0].Columns, l[0].Key = nil, -1 },
		"a column twice":           func(l []api.Table) { l[0].Columns[2].Name = "a" },
		"a column twice, last":     func(l []api.Table) { l[2].Columns[1].Name = "f" },
		"a column without a name":  func(l []api.Table) { l[1].Columns[1].Name = "" },
		"a column that is no name": func(l []api.Table) { l[1].Columns[0].Name = "order" },
		"the kind null":            func(l []api.Table) { l[0].Columns[1].Kind = api.Null },
		"the kind 4":               func(l []api.Table) { l[2].Columns[2].Kind = 4 },
		"the kind -1":              func(l []api.Table) { l[2].Columns[0].Kind = -1 },
		"the kind 2 ^ 32 + 1":      func(l []api.Table) { l[2].Columns[0].Kind = 1<<32 + 1 },
		"the key 3":                func(l []api.Table) { l[0].Key = 3 },
		"the key -2":               func(l []api.Table) { l[0].Key = -2 },
		"the key is nullable":      func(l []api.Table) { l[0].Key = 1 },
		"the key is nullable, too": func(l []api.Table) { l[1].Key = 0 },
		"the least key":            func(l []api.Table) { l[0].Key = -1 << 63 },
		"the greatest key":         func(l []api.Table) { l[2].Key = 1<<63 - 1 },
	} {
		l := tables()
		change(l)
		wantTables(t, what, l, api.ErrArg)
	}
	for what, change := range map[string]func(l []api.Table){
		"the last column is the key": func(l []api.Table) { l[2].Key = 2 },
		"no key":                     func(l []api.Table) { l[0].Key = -1 },
		"a long name":                func(l []api.Table) { l[2].Name = strings.Repeat("w", 16) },
		"a column like a table":      func(l []api.Table) { l[0].Columns[0].Name = "t" },
	} {
		l := tables()
		change(l)
		wantTables(t, what, l, api.OK)
	}
}

// P12.1: a table has at most MaxColumns columns.
func TestColumns(t *testing.T) {
	for n, want := range map[int]api.Errno{1: api.OK, 7: api.OK, 8: api.OK, 9: api.ErrArg, 1000: api.ErrArg} {
		x := api.Table{Name: "t", Key: n - 1}
		for i := range n {
			x.Columns = append(x.Columns, api.Column{Name: "a" + strconv.Itoa(i), Kind: api.Text})
		}
		wantTables(t, strconv.Itoa(n)+" columns", []api.Table{x}, want)
	}
}

// R1: there is no limit to the number of tables.
func TestManyTables(t *testing.T) {
	l := many(1 << 17)
	l[1<<16].Name = "t"
	wantTables(t, "many tables", l, api.OK)
	l[1<<17-1].Name = "t"
	wantTables(t, "a name twice among many", l, api.ErrArg)
}
