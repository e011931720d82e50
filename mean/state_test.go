package mean_test

import (
	"math"
	"slices"
	"strings"
	"testing"

	"touchmark/api"
	"touchmark/mean"
)

func number(n int64) api.Value { return api.Value{Kind: api.Int, N: n} }

func letters(s string) api.Value { return api.Value{Kind: api.Text, S: s} }

var (
	null = api.Value{}
	no   = api.Value{Kind: api.Bool}
	yes  = api.Value{Kind: api.Bool, N: 1}
)

// wantMay asks whether a state is valid; of one that is not, Run and Query have ErrArg, whatever else is wrong.
func wantMay(t *testing.T, what string, s api.State, want bool) {
	t.Helper()
	if got := mean.May(s); got != want {
		t.Errorf("%s: %t", what, got)
	}
	_, e := mean.Run(s, api.Plan{})
	_, f := mean.Query(s, api.Query{})
	if (e == api.ErrArg) == want || (f == api.ErrArg) == want {
		t.Errorf("%s: Run %d, Query %d", what, e, f)
	}
}

// changed is a change of the state with the tables t, u, w and o, and whether it is valid then.
type changed struct {
	what  string
	valid bool
	f     func(s *api.State)
}

func wantChanged(t *testing.T, l []changed) {
	t.Helper()
	for _, c := range l {
		s := base(t)
		c.f(&s)
		wantMay(t, c.what, s, c.valid)
	}
}

// P14.1: a state's tables are valid, and there is one list of rows for each.
func TestTables(t *testing.T) {
	wantChanged(t, []changed{
		{"as it is", true, func(s *api.State) {}},
		{"nothing", true, func(s *api.State) { *s = api.State{} }},
		{"empty lists", true, func(s *api.State) { *s = api.State{Tables: []api.Table{}, Rows: [][]api.Counted{}} }},
		{"no rows", true, func(s *api.State) { clear(s.Rows) }},
		{"no lists of rows", false, func(s *api.State) { s.Rows = nil }},
		{"a list too few", false, func(s *api.State) { s.Rows = s.Rows[:3] }},
		{"a list too many", false, func(s *api.State) { s.Rows = append(s.Rows, nil) }},
		{"a list, and no table", false, func(s *api.State) { s.Tables, s.Rows = nil, [][]api.Counted{nil} }},
		{"a table, and no list", false, func(s *api.State) { s.Tables, s.Rows = s.Tables[:1], nil }},
		{"other tables' rows", false, func(s *api.State) { slices.Reverse(s.Tables) }},
		{"another order", true, func(s *api.State) { slices.Reverse(s.Tables); slices.Reverse(s.Rows) }},
		{"a name twice", false, func(s *api.State) { s.Tables[3].Name = "t" }},
		{"no name", false, func(s *api.State) { s.Tables[3].Name = "" }},
		{"a keyword", false, func(s *api.State) { s.Tables[3].Name = "select" }},
		{"a name of 16 bytes", true, func(s *api.State) { s.Tables[3].Name = strings.Repeat("a", 16) }},
		{"a name of 17 bytes", false, func(s *api.State) { s.Tables[3].Name = strings.Repeat("a", 17) }},
		{"no columns", false, func(s *api.State) { s.Tables[3].Columns = nil }},
		{"a column twice", false, func(s *api.State) { s.Tables[3].Columns[1].Name = "a" }},
		{"a column without a name", false, func(s *api.State) { s.Tables[3].Columns[1].Name = "" }},
		{"a column of NULLs", false, func(s *api.State) { s.Tables[3].Columns[1].Kind = api.Null }},
		{"a column of no kind", false, func(s *api.State) { s.Tables[3].Columns[1].Kind = 4 }},
		{"a nullable key", false, func(s *api.State) { s.Tables[3].Key = 0 }},
		{"a key", true, func(s *api.State) { s.Tables[3].Columns[1].Nullable, s.Tables[3].Key = false, 1 }},
		{"a key that is no column", false, func(s *api.State) { s.Tables[3].Key = 2 }},
		{"a negative key", false, func(s *api.State) { s.Tables[3].Key = -2 }},
		{"many tables", true, func(s *api.State) {
			for c := 'a'; c <= 'z'; c++ {
				x := s.Tables[3]
				x.Name = "x" + string(c)
				s.Tables, s.Rows = append(s.Tables, x), append(s.Rows, nil)
			}
		}},
		{"eight columns", true, func(s *api.State) { s.Tables[3].Columns = columns("abcdefgh") }},
		{"nine columns", false, func(s *api.State) { s.Tables[3].Columns = columns("abcdefghi") }},
	})
}

func columns(names string) []api.Column {
	var l []api.Column
	for _, c := range names {
		l = append(l, api.Column{Name: string(c), Kind: api.Int})
	}
	return l
}

// P14.1: a list of rows is in strictly ascending order, with counts of at least 1 and at most MaxRows together.
func TestRowLists(t *testing.T) {
	counts := func(l ...int64) func(s *api.State) {
		return func(s *api.State) {
			for i, n := range l {
				s.Rows[1][i].Count = n
			}
		}
	}
	swap := func(l []api.Counted, i, k int) { l[i], l[k] = l[k], l[i] }
	wantChanged(t, []changed{
		{"first two exchanged", false, func(s *api.State) { swap(s.Rows[1], 0, 1) }},
		{"last two exchanged", false, func(s *api.State) { swap(s.Rows[1], 2, 3) }},
		{"descending", false, func(s *api.State) { slices.Reverse(s.Rows[1]) }},
		{"a row in two elements", false, func(s *api.State) { s.Rows[1] = append(s.Rows[1], s.Rows[1][3]) }},
		{"one element fewer", true, func(s *api.State) { s.Rows[1] = slices.Delete(s.Rows[1], 1, 2) }},
		{"the second column descends", false, func(s *api.State) { s.Rows[1][1].Row[0], s.Rows[1][2].Row[1] = number(2), number(4) }},
		{"the second column ascends", true, func(s *api.State) { s.Rows[1][1].Row[0], s.Rows[1][2].Row[1] = number(2), number(6) }},
		{"0 at first", false, counts(0)}, {"0 at last", false, counts(1, 1, 1, 0)}, {"negative", false, counts(1, -1)}, {"the least count", false, counts(1, math.MinInt64, 1, 1)},
		{"MaxRows", true, counts(api.MaxRows-3, 1, 1, 1)}, {"one more than MaxRows", false, counts(api.MaxRows-2, 1, 1, 1)}, {"MaxRows, behind others", true, counts(1, 1, 1, api.MaxRows-3)}, {"one more, behind others", false, counts(1, 1, 1, api.MaxRows-2)}, {"one more, by two", false, counts(api.MaxRows/2, api.MaxRows/2-1, 1, 1)},
		{"a great count", false, counts(math.MaxInt64)}, {"a sum that would wrap round to 1", false, counts(math.MaxInt64, math.MaxInt64, 2, 1)}, {"a sum that would wrap round to 4", false, counts(1<<62, 1<<62, 1<<62, 1<<62+4)}, {"a sum of 2^32 and more", false, counts(1<<32, 1, 1, 1)},
	})
	s := state(t, "create table t (a int not null)", "create table k (a int primary key)")
	for i := range int64(api.MaxRows) {
		s.Rows[0], s.Rows[1] = append(s.Rows[0], api.Counted{Row: api.Row{number(i)}, Count: 1}), append(s.Rows[1], api.Counted{Row: api.Row{number(i)}, Count: 1})
	}
	wantMay(t, "MaxRows rows in each of two tables", s, true)
	for i := range s.Rows {
		rows := s.Rows[i]
		s.Rows[i] = append(slices.Clip(rows), api.Counted{Row: api.Row{number(api.MaxRows)}, Count: 1})
		wantMay(t, "one row more", s, false)
		s.Rows[i] = rows
	}
}

// P14.1: a row has one value for each column, valid and of its kind, or NULL if the column is nullable.
func TestRowValues(t *testing.T) {
	set := func(table, row, column int, v api.Value) func(s *api.State) {
		return func(s *api.State) { s.Rows[table][row].Row[column] = v }
	}
	wantChanged(t, []changed{
		{"a value too few", false, func(s *api.State) { s.Rows[0][1].Row = s.Rows[0][1].Row[:1] }},
		{"a value too many", false, func(s *api.State) { s.Rows[0][1].Row = append(s.Rows[0][1].Row, null) }},
		{"no values", false, func(s *api.State) { s.Rows[0][0].Row = nil }},
		{"NULL in a nullable column", true, set(0, 0, 1, null)}, {"NULL in a column that is not", false, set(2, 0, 0, null)}, {"NULL in a key", false, set(0, 0, 0, null)},
		{"a string of another length", true, set(0, 0, 1, letters(""))}, {"an integer in a text column", false, set(0, 0, 1, number(1))}, {"a boolean in a text column", false, set(0, 0, 1, yes)}, {"a string in a column of integers", false, set(1, 3, 1, letters("1"))}, {"a boolean in a column of integers", false, set(1, 3, 1, yes)}, {"an integer in a column of booleans", false, set(2, 3, 1, number(1))}, {"a boolean in a column of booleans", true, set(2, 1, 1, no)}, {"NULL in a column of booleans", true, set(2, 0, 1, null)}, {"in the last table's last row", false, set(2, 3, 2, yes)},
		{"the longest string", true, set(0, 2, 1, letters(strings.Repeat("x", api.MaxText)))}, {"a string that is too long", false, set(0, 2, 1, letters(strings.Repeat("x", api.MaxText+1)))}, {"bytes that are no text", true, set(0, 2, 1, letters("\x00\xff"))},
		{"an integer with a string", false, set(0, 2, 0, api.Value{Kind: api.Int, N: 3, S: "x"})}, {"a string with an integer", false, set(0, 0, 1, api.Value{Kind: api.Text, N: 1})}, {"a NULL with an integer", false, set(0, 0, 1, api.Value{N: 1})}, {"a NULL with a string", false, set(0, 0, 1, api.Value{S: "x"})}, {"a boolean of 2", false, set(2, 3, 1, api.Value{Kind: api.Bool, N: 2})}, {"a boolean of -1", false, set(2, 3, 1, api.Value{Kind: api.Bool, N: -1})}, {"a value of no kind", false, set(0, 0, 1, api.Value{Kind: 4})}, {"a value of a negative kind", false, set(0, 0, 1, api.Value{Kind: -1})},
		{"the greatest integer", true, set(0, 2, 0, number(math.MaxInt64))}, {"the least integer", true, set(0, 0, 0, number(math.MinInt64))},
		{"a row longer than MaxRow bytes", true, func(s *api.State) {
			s.Tables[3].Columns[0].Kind = api.Text
			s.Rows[3] = []api.Counted{{Row: api.Row{letters(strings.Repeat("x", 64)), letters(strings.Repeat("y", 64))}, Count: 1}}
		}},
	})
}

// P14.1: rows of a table with a key have different keys, and are there once.
func TestKeys(t *testing.T) {
	wantChanged(t, []changed{
		{"a key twice, in the first column", false, func(s *api.State) {
			s.Rows[0][0].Row, s.Rows[0][1].Row = api.Row{number(1), null}, api.Row{number(1), letters("x")}
		}},
		{"neighbours with one key, in the last column", false, func(s *api.State) { s.Rows[2][2].Row[2], s.Rows[2][1].Row[2] = number(3), number(3) }},
		{"a key twice, with others between", false, func(s *api.State) { s.Rows[2][3].Row[2] = number(2) }},
		{"the same without a key", true, func(s *api.State) { s.Rows[2][3].Row[2], s.Tables[2].Key = number(2), -1 }},
		{"keys that do not ascend", true, func(s *api.State) { s.Rows[2][0].Row[2] = number(100) }},
		{"a count of 2", false, func(s *api.State) { s.Rows[0][1].Count = 2 }},
		{"a count of 2 at first", false, func(s *api.State) { s.Rows[2][0].Count = 2 }},
		{"a count of 2 at last", false, func(s *api.State) { s.Rows[2][3].Count = 2 }},
		{"a count of 2 without a key", true, func(s *api.State) { s.Rows[2][3].Count, s.Tables[2].Key = 2, -1 }},
		{"strings as keys", false, func(s *api.State) { s.Tables[2].Key = 0 }},
	})
	s := state(t, "create table t (a int, b bool primary key, c text not null)", "insert into t values (1, false, 'x'), (2, true, 'y')")
	wantMay(t, "booleans as keys", s, true)
	s.Tables[0].Key = 2
	wantMay(t, "strings as keys", s, true)
	s.Rows[0][1].Row[1] = no
	wantMay(t, "booleans that are equal", s, true)
	s.Tables[0].Key = 1
	wantMay(t, "booleans that are equal, as keys", s, false)
}
