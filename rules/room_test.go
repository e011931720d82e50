package rules

import (
	"testing"

	"touchmark/api"
)

// R1: all terms are counted, wherever they stand, until there are too many.
func TestRoom(t *testing.T) {
	column := api.Term{Op: api.OpColumn}
	isNull := func(l ...api.Term) api.Term { return api.Term{Op: api.OpIsNull, Args: l} }
	scan := api.Plan{Op: api.PlanScan, Table: "t"}
	group := api.Plan{Op: api.PlanGroup, Args: []api.Plan{scan}, Terms: []api.Term{column}, Aggs: []api.Agg{{Op: api.OpCountAll}, {Op: api.OpMax, Args: []api.Term{isNull(column)}}}}
	for i, c := range []struct {
		p api.Plan
		n int
	}{
		{scan, 0}, {choose(column, scan), 1}, {choose(isNull(isNull(column)), scan), 3}, {choose(both(column, isNull(column)), choose(column, scan)), 5}, {group, 3}, {api.Plan{Op: api.PlanJoin, Args: []api.Plan{group, choose(column, group)}, Terms: []api.Term{column}}, 8},
	} {
		for left := range 20 {
			if rest := roomBeside(c.p, left); rest != left-c.n && (rest >= 0 || left >= c.n) {
				t.Errorf("plan %d, room for %d: %d", i, left, rest)
			}
		}
	}
	large := choose(column, scan)
	for range 60 { // of all these terms, most are in several places
		large.Terms[0] = both(large.Terms[0], large.Terms[0])
	}
	if isLarge(group) || !isLarge(large) || !isLarge(choose(column, large)) || !isLarge(choose(large.Terms[0], scan)) {
		t.Error("large")
	}
}
