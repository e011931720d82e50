package plan

import (
	"testing"

	"touchmark/api"
	"touchmark/parse"
)

// R1: where stars would become more terms than there is room for, wherever they stand, there is an error and no plan.
func TestRoom(t *testing.T) {
	l := []api.Table{{Name: "t", Key: -1, Columns: []api.Column{{Name: "a", Kind: api.Int}, {Name: "b", Kind: api.Int}}}}
	for _, c := range []struct {
		src string
		n   int
	}{
		{"select a from t", 0}, {"select * from t", 2}, {"select *, a, * from t", 4}, {"select *, * from (select * from t) as s", 6}, {"select * from (select * from (select * from t) as s) as s", 6},
		{"select * from t union all select * from t", 4}, {"select x.a from (select * from t) as x join (select * from t as y join t as z on y.a = z.b) as y on false where x.b = 1", 6},
		{"select a from t where exists (select * from (select * from t) as s where s.a = b)", 2}, {"select count(*) from (select *, * from t) as s having count(*) > 1", 4},
	} {
		q, e, _ := parse.Query(c.src)
		if e != api.OK {
			t.Fatalf("%s: %d", c.src, e)
		}
		want, e := Lower(l, q)
		if e != api.OK {
			t.Fatalf("%s: %d", c.src, e)
		}
		if p, e := lower(l, q, c.n); e != api.OK || !Same(p, want) {
			t.Errorf("%s: %d with room for %d", c.src, e, c.n)
		}
		for n := range c.n {
			if p, e := lower(l, q, n); e != api.ErrMany || !Same(p, api.Plan{}) {
				t.Errorf("%s: %d with room for %d alone", c.src, e, n)
			}
		}
	}
}
