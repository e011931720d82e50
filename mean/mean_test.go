package mean_test

import (
	"go/parser"
	"go/token"
	"path/filepath"
	"slices"
	"strconv"
	"strings"
	"testing"

	"touchmark/api"
	"touchmark/mean"
	"touchmark/parse"
	"touchmark/value"
)

// state makes a state of statements: those that create tables, and those that insert rows, in any order.
func state(t *testing.T, statements ...string) api.State {
	t.Helper()
	var s api.State
	for _, src := range statements {
		x, e, at := parse.Statement(src)
		if e != api.OK {
			t.Fatalf("%s: %d, %d", src, e, at)
		}
		if x.Op == api.DoTable {
			s.Tables, s.Rows = append(s.Tables, x.Table), append(s.Rows, nil)
			continue
		}
		i := slices.IndexFunc(s.Tables, func(t api.Table) bool { return t.Name == x.Name })
		for _, l := range x.Rows {
			var r api.Row
			for _, v := range l {
				r = append(r, v.Value)
			}
			s.Rows[i] = insert(s.Rows[i], r)
		}
	}
	return s
}

// insert puts one more row into a table's rows.
func insert(l []api.Counted, r api.Row) []api.Counted {
	i, ok := slices.BinarySearchFunc(l, r, func(a api.Counted, r api.Row) int { return value.CompareRows(a.Row, r) })
	if ok {
		l[i].Count++
		return l
	}
	return slices.Insert(l, i, api.Counted{Row: r, Count: 1})
}

// base is t (1, 'x'), (2, null), (3, 'x'), u with rows that are there twice, w with all kinds, and the empty o.
func base(t *testing.T) api.State {
	t.Helper()
	return state(t,
		"create table t (a int primary key, b text)", "insert into t values (3, 'x'), (1, 'x'), (2, null)",
		"create table u (a int, d int)", "insert into u values (1, 5), (null, 5), (1, 5), (2, null), (9, -1)",
		"create table w (a text not null, e bool, f int primary key)", "insert into w values ('b', null, 3), ('b', true, 1), ('', false, 2), ('b', true, 7)",
		"create table o (a int, b text)",
	)
}

func query(t *testing.T, src string) api.Query {
	t.Helper()
	q, e, at := parse.Query(src)
	if e != api.OK {
		t.Fatalf("%s: %d, %d", src, e, at)
	}
	return q
}

// tell writes rows: 1 'x'; 2 null.
func tell(rows []api.Row) string {
	var l []string
	for _, r := range rows {
		var values []string
		for _, v := range r {
			values = append(values, tellValue(v))
		}
		l = append(l, strings.Join(values, " "))
	}
	return strings.Join(l, "; ")
}

// tellValue writes a value, and of one that is not valid all its fields.
func tellValue(v api.Value) string {
	n, s := strconv.FormatInt(v.N, 10), "'"+v.S+"'"
	switch {
	case !value.May(v):
		return strconv.Itoa(v.Kind) + "/" + n + "/" + s
	case v.Kind == api.Int:
		return n
	case v.Kind == api.Text:
		return s
	case v.Kind == api.Bool:
		return strconv.FormatBool(v.N == 1)
	}
	return "null"
}

// told writes what Run or Query returned.
func told(rows []api.Row, e api.Errno) string {
	if e == api.OK {
		return tell(rows)
	}
	if rows != nil {
		return "rows beside an error"
	}
	return "error " + strconv.Itoa(int(e))
}

// wantQueries asks for what queries denote over a state.
func wantQueries(t *testing.T, s api.State, l [][2]string) {
	t.Helper()
	for _, x := range l {
		a, e := mean.Query(s, query(t, x[0]))
		if e != api.OK && a.Columns != nil {
			t.Errorf("%s: columns beside error %d", x[0], e)
		}
		if got := told(a.Rows, e); got != x[1] {
			t.Errorf("%s:\n%s, not\n%s", x[0], got, x[1])
		}
	}
}

// The chapter's examples.
func TestExamples(t *testing.T) {
	wantQueries(t, base(t), [][2]string{
		{"select b, count(*) from t group by b", "null 1; 'x' 2"},
		{"select count(*), sum(a), max(b) from t where a > 9", "0 null null"},
		{"select 1 / (a - 1) from t where a > 1", "0; 1"},
		{"select a from t where 1 / (a - 1) > 0", "error 31"},
		{"select a from t where b = null or true", "1; 2; 3"},
		{"select a from t where b not in (select b from t)", ""},
		{"select x.a from t as x left join t as y on x.a = y.a + 1 where y.a is null", "1"},
		{"select a from t order by a desc limit 2", "3; 2"},
		{"select b from t except all select b from t where a = 1", "null; 'x'"},
	})
}

// Those of the whole document's examples that are queries.
func TestExamplesOfTheWhole(t *testing.T) {
	s := state(t, "create table t (a int primary key, b text)", "insert into t values (2, 'y'), (1, null)")
	wantQueries(t, s, [][2]string{
		{"select * from t", "1 null; 2 'y'"}, {"select count(*) from t where b <> 'y' or b is null", "1"},
		{"select 1 / (a - 1) from t", "error 31"}, {"select a from t where 1 / (a - 1) > 0", "error 31"},
		{"select a from t where a not in (select a from t where b is null)", "2"},
		{"select b, count(*) as n from t group by b", "null 1; 'y' 1"},
		{"select 1 from x", "error 20"}, {"select a from t limit 1", "error 26"},
	})
}

// The chapter's first paragraph: of the project, the package imports api, value, names and plan, and nothing else.
func TestImports(t *testing.T) {
	files, err := filepath.Glob("*.go")
	if err != nil || len(files) == 0 {
		t.Fatal(files, err)
	}
	for _, name := range files {
		if strings.HasSuffix(name, "_test.go") {
			continue
		}
		f, err := parser.ParseFile(token.NewFileSet(), name, nil, parser.ImportsOnly)
		if err != nil {
			t.Fatal(err)
		}
		for _, i := range f.Imports {
			path := strings.Trim(i.Path.Value, `"`)
			if rest, ok := strings.CutPrefix(path, "touchmark/"); ok && !strings.Contains(" api value names plan ", " "+rest+" ") {
				t.Errorf("%s imports %s", name, path)
			}
		}
	}
}
