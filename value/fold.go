package value

import (
	"strings"

	"touchmark/api"
)

type aggregate func(l []api.Value) (api.Value, api.Errno)

// Fold returns the result of an aggregate function, or its error.
func Fold(op int, l []api.Value) (api.Value, api.Errno) {
	f, ok := aggregates()[op]
	if !ok {
		return api.Value{}, api.ErrArg
	}
	return f(l)
}

func aggregates() map[int]aggregate {
	return map[int]aggregate{
		api.OpCountAll: func(l []api.Value) (api.Value, api.Errno) { return integer(int64(len(l))), api.OK },
		api.OpCount:    func(l []api.Value) (api.Value, api.Errno) { return integer(int64(len(notNull(l)))), api.OK },
		api.OpSum:      sum,
		api.OpMin:      extreme(-1),
		api.OpMax:      extreme(1),
	}
}

// notNull returns the values that are not NULL, as plain values.
func notNull(l []api.Value) []api.Value {
	var known []api.Value
	for _, v := range l {
		if v = plain(v); !isNull(v) {
			known = append(known, v)
		}
	}
	return known
}

func sum(l []api.Value) (api.Value, api.Errno) {
	known := notNull(l)
	if len(known) == 0 {
		return api.Value{}, api.OK
	}
	var total wide
	for _, v := range known {
		if v.Kind != api.Int {
			return api.Value{}, api.ErrKind
		}
		total = total.plus(v.N)
	}
	n, e := total.narrow()
	if e != api.OK {
		return api.Value{}, e
	}
	return integer(n), api.OK
}

// extreme returns the function that returns the value to which no other one has the wanted order: -1 for the minimum, 1 for the maximum.
func extreme(wanted int) aggregate {
	return func(l []api.Value) (api.Value, api.Errno) {
		known := notNull(l)
		if len(known) == 0 {
			return api.Value{}, api.OK
		}
		best := known[0]
		for _, v := range known {
			if v.Kind != best.Kind {
				return api.Value{}, api.ErrKind
			}
			if order(v, best) == wanted {
				best = v
			}
		}
		// A result shares no memory with an argument (R3).
		best.S = strings.Clone(best.S)
		return best, api.OK
	}
}
