package names_test

import (
	"go/parser"
	"go/token"
	"path/filepath"
	"strings"
	"testing"

	"touchmark/api"
	"touchmark/names"
	"touchmark/parse"
)

// tables are t (a int primary key, b text, c bool), u (a int, d int), and w (a text not null, e bool not null, f int not null).
func tables() []api.Table {
	return []api.Table{
		{Name: "t", Columns: []api.Column{{Name: "a", Kind: api.Int}, {Name: "b", Kind: api.Text, Nullable: true}, {Name: "c", Kind: api.Bool, Nullable: true}}},
		{Name: "u", Key: -1, Columns: []api.Column{{Name: "a", Kind: api.Int, Nullable: true}, {Name: "d", Kind: api.Int, Nullable: true}}},
		{Name: "w", Key: -1, Columns: []api.Column{{Name: "a", Kind: api.Text}, {Name: "e", Kind: api.Bool}, {Name: "f", Kind: api.Int}}},
	}
}

func query(t *testing.T, src string) api.Query {
	t.Helper()
	q, e, at := parse.Query(src)
	if e != api.OK {
		t.Fatalf("%s: %d, %d", src, e, at)
	}
	return q
}

func statement(t *testing.T, src string) api.Statement {
	t.Helper()
	s, e, at := parse.Statement(src)
	if e != api.OK {
		t.Fatalf("%s: %d, %d", src, e, at)
	}
	return s
}

// tell writes columns: each with its name (- if it has none), its kind, and ? if it is nullable.
func tell(l []api.Column) string {
	var texts []string
	for _, c := range l {
		s := c.Name
		if s == "" {
			s = "-"
		}
		s += " " + [...]string{"null", "int", "text", "bool"}[c.Kind]
		if c.Nullable {
			s += "?"
		}
		texts = append(texts, s)
	}
	return strings.Join(texts, ", ")
}

func wantColumns(t *testing.T, src, want string) {
	t.Helper()
	l, e := names.Query(tables(), query(t, src))
	if e != api.OK || tell(l) != want {
		t.Errorf("%s: %s, %d, not %s", src, tell(l), e, want)
	}
}

// wantError asks for a query's error, also from the statement that is the query.
func wantError(t *testing.T, src string, want api.Errno) {
	t.Helper()
	l, e := names.Query(tables(), query(t, src))
	if e != want || len(l) > 0 && e != api.OK {
		t.Errorf("%s: %s, %d, not %d", src, tell(l), e, want)
	}
	if e := names.Statement(tables(), 0, statement(t, src)); e != want {
		t.Errorf("%s: as a statement %d, not %d", src, e, want)
	}
}

// fault is a source, and the error that is asked for.
type fault struct {
	src string
	e   api.Errno
}

func wantErrors(t *testing.T, l []fault) {
	t.Helper()
	for _, f := range l {
		wantError(t, f.src, f.e)
	}
}

// wantStatements asks for the errors of statements, with the last tables, so many, as views.
func wantStatements(t *testing.T, views int, l []fault) {
	t.Helper()
	for _, f := range l {
		if e := names.Statement(tables(), views, statement(t, f.src)); e != f.e {
			t.Errorf("%s: %d, not %d", f.src, e, f.e)
		}
	}
}

// The chapter's examples.
func TestExamples(t *testing.T) {
	wantColumns(t, "select a, b as x, a + 1 from t", "a int, x text?, - int")
	wantColumns(t, "select * from t as x left join u as y on x.a = y.a", "a int, b text?, c bool?, a int?, d int?")
	wantColumns(t, "select b, count(*) from t group by b", "b text?, - int")
	wantColumns(t, "select a from t where exists (select d from u where u.a = t.a)", "a int")
	wantErrors(t, []fault{
		{"select a from t as x join u as y on true", api.ErrTwice},
		{"select a, count(*) from t group by b", api.ErrGroup},
		{"select a from t where c or a in (select a from u)", api.ErrPlace},
		{"select a from t where a = 'x'", api.ErrKind},
		{"select a from t where a", api.ErrKind},
		{"select a from t limit 3", api.ErrLimit},
		{"select a from t order by a + 1", api.ErrPlace},
		{"select a from t union all select b from t", api.ErrKind},
	})
	wantStatements(t, 0, []fault{
		{"insert into t values (1, null, null)", api.OK},
		{"insert into t values (1, 2, true)", api.ErrKind},
		{"create view v as select a + 1 from t", api.ErrName},
		{"create view v as select distinct a from t", api.ErrView},
	})
}

// The chapter's first paragraph: of the project, the package imports api, value, scan and print, and nothing else.
func TestImports(t *testing.T) {
	files, err := filepath.Glob("*.go")
	if err != nil || len(files) == 0 {
		t.Fatal(files, err)
	}
	for _, name := range files {
		if strings.HasSuffix(name, "_test.go") {
			continue
		}
		f, err := parser.ParseFile(token.NewFileSet(), name, nil, parser.ImportsOnly)
		if err != nil {
			t.Fatal(err)
		}
		for _, i := range f.Imports {
			path := strings.Trim(i.Path.Value, `"`)
			if rest, ok := strings.CutPrefix(path, "touchmark/"); ok && !strings.Contains(" api value scan print ", " "+rest+" ") {
				t.Errorf("%s imports %s", name, path)
			}
		}
	}
}
