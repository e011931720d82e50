package value_test

import (
	"go/parser"
	"go/token"
	"math"
	"math/rand"
	"path/filepath"
	"slices"
	"strings"
	"testing"

	"touchmark/api"
	"touchmark/value"
)

func wantMay(t *testing.T, v api.Value, want bool) {
	t.Helper()
	if got := value.May(v); got != want {
		t.Errorf("May %+v: %v", v, got)
	}
}

// P8.1: what is valid, and what is not, in each of the ways.
func TestMay(t *testing.T) {
	for _, v := range ascending() {
		wantMay(t, v, true)
	}
	for _, x := range oddValues() {
		wantMay(t, x.v, false)
	}
}

// P8.1: N of each kind.
func TestMayNumbers(t *testing.T) {
	for n := int64(-300); n <= 300; n++ {
		wantMay(t, api.Value{Kind: api.Null, N: n}, n == 0)
		wantMay(t, number(n), true)
		wantMay(t, api.Value{Kind: api.Text, N: n}, n == 0)
		wantMay(t, api.Value{Kind: api.Text, N: n, S: "a"}, n == 0)
		wantMay(t, api.Value{Kind: api.Bool, N: n}, n == 0 || n == 1)
		wantMay(t, api.Value{Kind: int(n)}, n >= 0 && n <= 3)
	}
}

// P8.1: S of each kind and of each length; of a string the bytes are counted, not the characters.
func TestMayStrings(t *testing.T) {
	for n := range 200 {
		for _, part := range []string{"a", "\x00", "\xff"} {
			s := strings.Repeat(part, n)
			wantMay(t, text(s), n <= 64)
			for _, k := range []int{api.Null, api.Int, api.Bool} {
				wantMay(t, api.Value{Kind: k, S: s}, n == 0)
			}
		}
		wantMay(t, text(strings.Repeat("é", n)), n <= 32)
	}
}

func wantCompare(t *testing.T, a, b api.Value, want int) {
	t.Helper()
	if got := value.Compare(a, b); got != want {
		t.Errorf("Compare %+v, %+v: %d, want %d", a, b, got, want)
	}
}

// P8.2: values in their order, each against each; the tests' model has the same order.
func TestCompare(t *testing.T) {
	l := ascending()
	for i, a := range l {
		for k, b := range l {
			want := min(max(i-k, -1), 1)
			wantCompare(t, a, b, want)
			if modelCompare(a, b) != want {
				t.Errorf("the model has another order of %+v and %+v", a, b)
			}
		}
	}
}

// P8.2: each single byte, and each with another one behind it.
func TestCompareBytes(t *testing.T) {
	for x := range 256 {
		for y := range 256 {
			a, b := string([]byte{byte(x)}), string([]byte{byte(y)})
			want := min(max(x-y, -1), 1)
			wantCompare(t, text(a), text(b), want)
			wantCompare(t, text("é"+a), text("é"+b), want)
			if x != y {
				wantCompare(t, text(a+"b"), text(b+"a"), want)
			}
		}
	}
}

// P8.2: of values that are not valid only the fields that the kind requires count, and an unknown kind is NULL.
func TestCompareOdd(t *testing.T) {
	l := all()
	for _, a := range l {
		wantCompare(t, a.v, a.as, 0)
		wantCompare(t, a.as, a.v, 0)
		for _, b := range l {
			wantCompare(t, a.v, b.v, modelCompare(a.as, b.as))
		}
	}
}

// P8.6: Compare is a total order: of any three values, also ones that are not valid.
func TestTotalOrder(t *testing.T) {
	l := all()
	for _, a := range l {
		wantCompare(t, a.v, a.v, 0)
		for _, b := range l {
			ab := value.Compare(a.v, b.v)
			wantCompare(t, b.v, a.v, -ab)
			if ab > 0 {
				continue
			}
			for _, c := range l {
				bc, ac := value.Compare(b.v, c.v), value.Compare(a.v, c.v)
				if bc <= 0 && ac != min(ab, bc) {
					t.Fatalf("not transitive: %+v, %+v, %+v", a.v, b.v, c.v)
				}
			}
		}
	}
}

func wantRows(t *testing.T, a, b api.Row, want int) {
	t.Helper()
	if got := value.CompareRows(a, b); got != want {
		t.Errorf("CompareRows %v, %v: %d, want %d", a, b, got, want)
	}
}

// P8.2: rows that are written out.
func TestCompareRows(t *testing.T) {
	for _, c := range []struct {
		a, b api.Row
		want int
	}{
		{nil, nil, 0}, {nil, api.Row{}, 0}, {nil, api.Row{null}, -1}, {api.Row{null}, api.Row{null, null}, -1},
		{api.Row{number(1)}, api.Row{number(1), null}, -1}, {api.Row{number(2)}, api.Row{number(1), yes}, 1},
		{api.Row{number(1), text("b")}, api.Row{number(1), text("a"), yes}, 1}, {api.Row{number(1), text("b")}, api.Row{number(2), text("a")}, -1},
		{api.Row{null, no, yes}, api.Row{null, no, yes}, 0}, {api.Row{null, no, yes}, api.Row{null, yes, no}, -1},
		{api.Row{text("a"), text("b")}, api.Row{text("ab")}, -1}, {api.Row{no}, api.Row{text("z"), text("z")}, 1},
		{api.Row{{Kind: 9, N: 3}, number(1)}, api.Row{null, number(2)}, -1}, {api.Row{{Kind: api.Bool, N: 7}, null}, api.Row{yes}, 1},
	} {
		wantRows(t, c.a, c.b, c.want)
		wantRows(t, c.b, c.a, -c.want)
	}
}

// P8.2: all rows of up to three of some values, each against each; made in ascending order, so that their numbers tell the order.
func TestCompareRowsAll(t *testing.T) {
	some := []api.Value{null, number(-5), number(3), text(""), text("a"), no, yes}
	var rows []api.Row
	var grow func(api.Row)
	grow = func(r api.Row) {
		rows = append(rows, r)
		for _, v := range some {
			if len(r) < 3 {
				grow(append(slices.Clone(r), v))
			}
		}
	}
	grow(nil)
	if len(rows) != 1+7+7*7+7*7*7 {
		t.Fatal(len(rows))
	}
	for i, a := range rows {
		for k, b := range rows {
			wantRows(t, a, b, min(max(i-k, -1), 1))
		}
	}
}

// P8.2: long rows that differ in one value, or in length alone.
func TestCompareRowsLong(t *testing.T) {
	r := rand.New(rand.NewSource(8))
	l := ascending()
	for range 2000 {
		var a api.Row
		for range 1 + r.Intn(40) {
			a = append(a, l[r.Intn(len(l))])
		}
		b := slices.Clone(a)
		at := r.Intn(len(a))
		b[at] = l[r.Intn(len(l))]
		wantRows(t, a, b, modelCompare(a[at], b[at]))
		wantRows(t, a[:at], a, -1)
		wantRows(t, a, a[:at], 1)
	}
}

// R3: the rows stay as they are, spare capacity included.
func TestCompareRowsMemory(t *testing.T) {
	a := api.Row{{Kind: api.Bool, N: 5, S: "a"}, number(1), text("spare")}
	b := api.Row{{Kind: api.Bool, N: 3}, {Kind: api.Int, N: 1, S: "x"}, {Kind: 9, N: 4}}
	x, y := slices.Clone(a), slices.Clone(b)
	wantRows(t, a[:2], b[:2], 0)
	wantRows(t, a[:1], b[:2], -1)
	if !slices.Equal(a, x) || !slices.Equal(b, y) {
		t.Error("CompareRows changed its arguments, or what is behind them")
	}
}

// The smallest and the greatest integer are too far from each other for their difference to fit.
func TestCompareFar(t *testing.T) {
	wantCompare(t, number(math.MinInt64), number(math.MaxInt64), -1)
	wantCompare(t, number(math.MaxInt64), number(-1), 1)
	wantCompare(t, number(1), number(math.MinInt64), 1)
	wantCompare(t, number(1<<33), number(1), 1)
}

// The chapter's first paragraph: of the project, the package imports api alone.
func TestImportsApiAlone(t *testing.T) {
	files, err := filepath.Glob("*.go")
	if err != nil || len(files) == 0 {
		t.Fatal(files, err)
	}
	for _, name := range files {
		if strings.HasSuffix(name, "_test.go") {
			continue
		}
		f, err := parser.ParseFile(token.NewFileSet(), name, nil, parser.ImportsOnly)
		if err != nil {
			t.Fatal(err)
		}
		for _, i := range f.Imports {
			if strings.HasPrefix(i.Path.Value, `"touchmark/`) && i.Path.Value != `"touchmark/api"` {
				t.Errorf("%s imports %s", name, i.Path.Value)
			}
		}
	}
}
