package plan_test

import (
	"go/parser"
	"go/token"
	"path/filepath"
	"strconv"
	"strings"
	"testing"

	"touchmark/api"
	"touchmark/parse"
	"touchmark/plan"
)

// tables are t (a int primary key, b text, c bool), u (a int, d int), and w (a text not null, e bool not null, f int not null).
func tables() []api.Table {
	return []api.Table{
		{Name: "t", Columns: []api.Column{{Name: "a", Kind: api.Int}, {Name: "b", Kind: api.Text, Nullable: true}, {Name: "c", Kind: api.Bool, Nullable: true}}},
		{Name: "u", Key: -1, Columns: []api.Column{{Name: "a", Kind: api.Int, Nullable: true}, {Name: "d", Kind: api.Int, Nullable: true}}},
		{Name: "w", Key: -1, Columns: []api.Column{{Name: "a", Kind: api.Text}, {Name: "e", Kind: api.Bool}, {Name: "f", Kind: api.Int}}},
	}
}

func query(t *testing.T, src string) api.Query {
	t.Helper()
	q, e, at := parse.Query(src)
	if e != api.OK {
		t.Fatalf("%s: %d, %d", src, e, at)
	}
	return q
}

// tell writes a plan: what it is, and then all parts that it has; the numbers of columns without a sign, other numbers with one.
func tell(p api.Plan) string {
	s := strings.Fields("none scan seek select project join left semi anti group union except distinct sort limit")[p.Op]
	if p.Table != "" {
		s += " " + p.Table
	}
	if len(p.Terms) > 0 {
		s += " [" + list(p.Terms, tellTerm) + "]"
	}
	if len(p.Aggs) > 0 {
		s += " {" + list(p.Aggs, func(a api.Agg) string { return strings.TrimSpace(opName(a.Op) + " " + list(a.Args, tellTerm)) }) + "}"
	}
	if len(p.Keys) > 0 {
		s += " <" + list(p.Keys, tellKey) + ">"
	}
	if p.N != 0 {
		s += " #" + strconv.FormatInt(p.N, 10)
	}
	for _, a := range p.Args {
		s += " (" + tell(a) + ")"
	}
	return s
}

func list[T any](l []T, tell func(T) string) string {
	var texts []string
	for _, x := range l {
		texts = append(texts, tell(x))
	}
	return strings.Join(texts, ", ")
}

func opName(op int) string {
	return strings.Fields("none value name column neg add sub mul div rem eq ne lt le gt ge not and or isnull notnull countall count sum min max")[op]
}

func tellKey(k api.Key) string {
	if k.Down {
		return strconv.Itoa(k.Col) + " down"
	}
	return strconv.Itoa(k.Col)
}

func tellTerm(t api.Term) string {
	switch t.Op {
	case api.OpValue:
		return tellValue(t.Value)
	case api.OpColumn:
		return strconv.Itoa(t.Col)
	}
	s := "(" + opName(t.Op)
	for _, a := range t.Args {
		s += " " + tellTerm(a)
	}
	return s + ")"
}

func tellValue(v api.Value) string {
	switch v.Kind {
	case api.Int:
		return "#" + strconv.FormatInt(v.N, 10)
	case api.Text:
		return "'" + v.S + "'"
	case api.Bool:
		return strconv.FormatBool(v.N == 1)
	}
	return "null"
}

// columnsOf writes columns: each with its name (- if it has none), its kind, and ? if it is nullable.
func columnsOf(l []api.Column) string {
	return list(l, func(c api.Column) string {
		s := c.Name
		if s == "" {
			s = "-"
		}
		s += " " + [...]string{"null", "int", "text", "bool"}[c.Kind]
		if c.Nullable {
			s += "?"
		}
		return s
	})
}

// wantPlan asks for a query's plan.
func wantPlan(t *testing.T, src, want string) {
	t.Helper()
	p, e := plan.Lower(tables(), query(t, src))
	if e != api.OK || tell(p) != want {
		t.Errorf("%s:\n%s, %d, not\n%s", src, tell(p), e, want)
	}
}

// The chapter's examples.
func TestExamples(t *testing.T) {
	wantPlan(t, "select a from t where a > 1 and c", "project [0] (select [(and (gt 0 #1) 2)] (scan t))")
	wantPlan(t, "select t.a, d from t left join u on t.a = u.a", "project [0, 4] (left [(eq 0 3)] (scan t) (scan u))")
	wantPlan(t, "select a from t where a not in (select d from u where c)", "project [0] (anti [(and (or (isnull (eq 0 4)) (eq 0 4)) 2)] (scan t) (scan u))")
	wantPlan(t, "select b, sum(a) + 1 from t group by b having count(*) > 1", "project [0, (add 1 #1)] (select [(gt 2 #1)] (group [1] {sum 0, countall} (scan t)))")
	wantPlan(t, "select a from t order by a desc limit 3", "limit #3 (sort <0 down> (project [0] (scan t)))")
}

// The chapter's first paragraph: of the project, the package imports api, value and names, and nothing else.
func TestImports(t *testing.T) {
	files, err := filepath.Glob("*.go")
	if err != nil || len(files) == 0 {
		t.Fatal(files, err)
	}
	for _, name := range files {
		if strings.HasSuffix(name, "_test.go") {
			continue
		}
		f, err := parser.ParseFile(token.NewFileSet(), name, nil, parser.ImportsOnly)
		if err != nil {
			t.Fatal(err)
		}
		for _, i := range f.Imports {
			path := strings.Trim(i.Path.Value, `"`)
			if rest, ok := strings.CutPrefix(path, "touchmark/"); ok && !strings.Contains(" api value names ", " "+rest+" ") {
				t.Errorf("%s imports %s", name, path)
			}
		}
	}
}
