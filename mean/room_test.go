package mean

import (
	"math"
	"testing"

	"touchmark/api"
	"touchmark/parse"
	"touchmark/plan"
)

func one(n int64) api.Row { return api.Row{{Kind: api.Int, N: n}} }

// R1: where plans would pass on more rows than there is room for, wherever they do, there is an error and no rows.
func TestRoom(t *testing.T) {
	s := api.State{Tables: []api.Table{{Name: "t", Key: -1, Columns: []api.Column{{Name: "a", Kind: api.Int}}}}, Rows: [][]api.Counted{{{Row: one(1), Count: 3}, {Row: one(2), Count: 2}}}}
	for _, c := range []struct {
		src string
		n   int64 // how many rows all plans have, but for an order or a limit
	}{
		{"select a from t", 10}, {"select a from t where a = 1", 11}, {"select distinct a from t", 12}, {"select a from t order by a", 10}, {"select a from t order by a limit 1", 15}, {"select count(*) from t", 7}, {"select a, count(*) from t group by a having count(*) > 2", 9},
		{"select x.a from t as x join t as y on true", 60}, {"select x.a from t as x join t as y on x.a = y.a", 36}, {"select x.a from t as x left join t as y on x.a = y.a + 1", 28}, {"select a from t where a in (select a - 1 from t)", 16}, {"select a from t where a not in (select a - 1 from t)", 14},
		{"select a from t union all select a from t", 30}, {"select a from t except all select a from t where a = 2", 22}, {"select 1 / 0 from t where a > 5", 5},
	} {
		q, e, _ := parse.Query(c.src)
		if e != api.OK {
			t.Fatalf("%s: %d", c.src, e)
		}
		p, e := plan.Lower(s.Tables, q)
		if e != api.OK {
			t.Fatalf("%s: %d", c.src, e)
		}
		want, _ := Run(s, p)
		if rows, e := evaluate(s, p, c.n); e != api.OK || len(rows) != len(want) {
			t.Errorf("%s: %d with room for %d", c.src, e, c.n)
		}
		for n := range c.n {
			if rows, e := evaluate(s, p, n); e != api.ErrMany || rows != nil {
				t.Errorf("%s: %d with room for %d alone", c.src, e, n)
			}
		}
	}
}

// R1: numbers of rows that go beyond all numbers.
func TestTooManyRows(t *testing.T) {
	s := api.State{Tables: []api.Table{{Name: "t", Key: -1, Columns: []api.Column{{Name: "a", Kind: api.Int}}}}, Rows: [][]api.Counted{{{Row: one(math.MaxInt64), Count: api.MaxRows}}}}
	src := "select count(*) from t as t0"
	for i := range 8 {
		src += " join t as t" + string(rune('1'+i)) + " on true"
		q, e, _ := parse.Query(src)
		if e != api.OK {
			t.Fatalf("%s: %d", src, e)
		}
		if a, e := Query(s, q); i == 0 && (e != api.OK || a.Rows[0][0].N != 1<<24) || i > 0 && e != api.ErrMany {
			t.Errorf("%s: %v, %d", src, a.Rows, e)
		}
	}
}

// R1: the room is that of the bound: many rows of which all are equal are within it.
func TestRoomOfTheBound(t *testing.T) {
	s := api.State{Tables: []api.Table{{Name: "t", Key: -1, Columns: []api.Column{{Name: "a", Kind: api.Int}}}, {Name: "u", Key: -1, Columns: []api.Column{{Name: "a", Kind: api.Int}}}}}
	always := []api.Term{{Op: api.OpValue, Value: api.Value{Kind: api.Bool, N: 1}}}
	scan := func(name string) api.Plan { return api.Plan{Op: api.PlanScan, Table: name} }
	join := func(a, b api.Plan) api.Plan {
		return api.Plan{Op: api.PlanJoin, Args: []api.Plan{a, b}, Terms: always}
	}
	p := api.Plan{Op: api.PlanDistinct, Args: []api.Plan{join(join(scan("t"), scan("t")), scan("u"))}}
	for n := int64(125); n < 130; n++ {
		s.Rows = [][]api.Counted{{{Row: one(1), Count: api.MaxRows}}, {{Row: one(2), Count: n}}}
		inBetween := 2*api.MaxRows + n + (n+1)<<24 + 1
		rows, e := Run(s, p)
		if inBetween <= math.MaxInt32 && (e != api.OK || len(rows) != 1) || inBetween > math.MaxInt32 && e != api.ErrMany {
			t.Errorf("%d rows in between: %d, %d", inBetween, len(rows), e)
		}
	}
}
