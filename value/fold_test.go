package value_test

import (
	"math"
	"math/rand"
	"slices"
	"strings"
	"testing"
	"unsafe"

	"touchmark/api"
	"touchmark/value"
)

func wantFold(t *testing.T, op int, l []api.Value, want api.Value, e api.Errno) {
	t.Helper()
	if v, ge := value.Fold(op, l); v != want || ge != e {
		t.Errorf("Fold %d of %d values, %+v ..: %+v, %d, want %+v, %d", op, len(l), l[:min(len(l), 8)], v, ge, want, e)
	}
}

// P8.4: what is written out in the chapter, and the edges that it names.
func TestFold(t *testing.T) {
	const least, most = math.MinInt64, math.MaxInt64
	type list = []api.Value
	for _, c := range []struct {
		op   int
		l    list
		want api.Value
		e    api.Errno
	}{
		{api.OpSum, list{number(most), number(1), number(-1)}, number(most), 0}, {api.OpSum, list{null}, null, 0}, {api.OpCount, list{null, number(5)}, number(1), 0},
		{api.OpCountAll, nil, number(0), 0}, {api.OpCountAll, list{null, null}, number(2), 0}, {api.OpCountAll, list{text("a"), number(1), {Kind: 9}}, number(3), 0},
		{api.OpCount, nil, number(0), 0}, {api.OpCount, list{null, null}, number(0), 0}, {api.OpCount, list{text("a"), no, number(0), {Kind: 9, N: 1}}, number(3), 0},
		{api.OpSum, nil, null, 0}, {api.OpSum, list{null, null}, null, 0}, {api.OpSum, list{number(0)}, number(0), 0}, {api.OpSum, list{number(5), null, number(-7)}, number(-2), 0}, {api.OpSum, list{number(most)}, number(most), 0}, {api.OpSum, list{number(least)}, number(least), 0},
		{api.OpSum, list{number(most), number(1)}, null, api.ErrOverflow}, {api.OpSum, list{number(least), number(-1)}, null, api.ErrOverflow}, {api.OpSum, list{number(least), number(least)}, null, api.ErrOverflow}, {api.OpSum, list{number(most), number(most), number(2)}, null, api.ErrOverflow}, {api.OpSum, list{number(least), number(most)}, number(-1), 0}, {api.OpSum, list{number(least), number(-1), null, number(1)}, number(least), 0}, {api.OpSum, list{number(least), number(least), number(most), number(1)}, number(least), 0},
		{api.OpSum, list{text("a")}, null, api.ErrKind}, {api.OpSum, list{null, yes}, null, api.ErrKind}, {api.OpSum, list{number(1), no}, null, api.ErrKind}, {api.OpSum, list{number(most), number(1), text("")}, null, api.ErrKind}, {api.OpSum, list{text("a"), number(most), number(1)}, null, api.ErrKind},
		{api.OpMin, nil, null, 0}, {api.OpMin, list{null, null}, null, 0}, {api.OpMin, list{null, number(3), number(-3), null, number(2)}, number(-3), 0}, {api.OpMin, list{text("b"), text("ab"), null}, text("ab"), 0}, {api.OpMin, list{yes, no, yes}, no, 0}, {api.OpMin, list{number(least), number(most)}, number(least), 0},
		{api.OpMax, nil, null, 0}, {api.OpMax, list{null}, null, 0}, {api.OpMax, list{null, number(-3), number(3), number(2)}, number(3), 0}, {api.OpMax, list{text("b"), text("ab"), null}, text("b"), 0}, {api.OpMax, list{no, yes, no}, yes, 0}, {api.OpMax, list{no, null}, no, 0}, {api.OpMax, list{number(least), number(most)}, number(most), 0},
		{api.OpMin, list{number(1), text("a")}, null, api.ErrKind}, {api.OpMin, list{null, yes, null, number(1)}, null, api.ErrKind}, {api.OpMax, list{no, text("a")}, null, api.ErrKind}, {api.OpMax, list{number(1), number(2), number(3), yes}, null, api.ErrKind},
		{api.OpMin, list{{Kind: api.Bool, N: 7, S: "a"}}, yes, 0}, {api.OpMax, list{{Kind: api.Int, N: 7, S: "a"}}, number(7), 0}, {api.OpMax, list{{Kind: api.Text, N: 7, S: "a"}, {Kind: 9, N: 4, S: "b"}}, text("a"), 0}, {api.OpMin, list{{Kind: 9, N: 4, S: "b"}, {N: 1}}, null, 0},
		{0, nil, null, api.ErrArg}, {api.OpAdd, list{number(1), number(2)}, null, api.ErrArg}, {api.OpNotNull, list{null}, null, api.ErrArg}, {api.OpExists, nil, null, api.ErrArg}, {-1, list{text("a"), number(1)}, null, api.ErrArg},
	} {
		wantFold(t, c.op, c.l, c.want, c.e)
	}
}

// P8.4: every number of an operator, with all lists of up to three of the values, valid or not, against the chapter's words.
func TestFoldAll(t *testing.T) {
	values := all()
	check := func(l ...odd) {
		var given, as []api.Value
		for _, x := range l {
			given, as = append(given, x.v), append(as, x.as)
		}
		for _, op := range ops() {
			want, e := modelFold(op, as)
			wantFold(t, op, given, want, e)
		}
	}
	check()
	for i, a := range values {
		check(a)
		for k, b := range values {
			check(a, b)
			check(a, b, values[(i*7+k*3)%len(values)])
			check(a, b, odd{})
		}
	}
}

// randomInts are integers with NULLs among them, many of them so great that partial sums don't fit.
func randomInts(r *rand.Rand) []api.Value {
	var l []api.Value
	for range r.Intn(40) {
		n := int64(r.Uint64()) >> (r.Intn(8) * r.Intn(8))
		switch r.Intn(5) {
		case 0:
			l = append(l, null)
		case 1:
			l = append(l, number(n), number(^n))
		default:
			l = append(l, number(n))
		}
	}
	return l
}

// P8.4 and P8.6: sums by chance are exact, in whatever order their values come.
func TestSumByChance(t *testing.T) {
	r := rand.New(rand.NewSource(84))
	fits := 0
	for range 5000 {
		l := randomInts(r)
		want, e := modelFold(api.OpSum, l)
		if e == api.OK {
			fits++
		}
		for range 4 {
			wantFold(t, api.OpSum, l, want, e)
			r.Shuffle(len(l), func(i, k int) { l[i], l[k] = l[k], l[i] })
		}
	}
	if fits < 500 || fits > 4500 {
		t.Errorf("%d sums fit", fits)
	}
}

// P8.6: OpSum does not depend on the order: all orders of some values, with an error among them or not.
func TestSumOrders(t *testing.T) {
	const least, most = math.MinInt64, math.MaxInt64
	for _, l := range [][]api.Value{
		{number(most), number(most), number(least), number(least), number(2)},
		{number(most), number(1), number(-1), null, number(0)},
		{number(most), number(1), text("a"), null, number(most)},
		{number(least), number(least), number(-1), number(most), yes},
		{number(most), number(most), number(most), number(1), null},
	} {
		want, e := modelFold(api.OpSum, l)
		permute(l, len(l), func() { wantFold(t, api.OpSum, l, want, e) })
	}
}

// permute calls see with each order of the first n values.
func permute(l []api.Value, n int, see func()) {
	if n < 2 {
		see()
		return
	}
	for i := range n {
		l[i], l[n-1] = l[n-1], l[i]
		permute(l, n-1, see)
		l[i], l[n-1] = l[n-1], l[i]
	}
}

// P8.4: long lists, whose partial sums go far beyond 64 bits.
func TestFoldLong(t *testing.T) {
	const many = 100000
	l := slices.Concat(slices.Repeat([]api.Value{number(math.MaxInt64)}, many), slices.Repeat([]api.Value{number(-math.MaxInt64)}, many))
	wantFold(t, api.OpSum, l, number(0), api.OK)
	wantFold(t, api.OpSum, append(l, number(math.MinInt64)), number(math.MinInt64), api.OK)
	wantFold(t, api.OpSum, l[1:], number(-math.MaxInt64), api.OK)
	wantFold(t, api.OpSum, l[:many], null, api.ErrOverflow)
	wantFold(t, api.OpSum, l[many:], null, api.ErrOverflow)
	wantFold(t, api.OpCountAll, l, number(2*many), api.OK)
	wantFold(t, api.OpCount, append(l, null), number(2*many), api.OK)
	wantFold(t, api.OpMin, l, number(-math.MaxInt64), api.OK)
	wantFold(t, api.OpMax, l, number(math.MaxInt64), api.OK)
}

// P8.4: the first and the last one of the values can be the minimum or the maximum.
func TestExtremesAnywhere(t *testing.T) {
	for n := 1; n < 12; n++ {
		for at := range n {
			l := slices.Repeat([]api.Value{number(5), null}, n)
			l[at*2] = number(4)
			wantFold(t, api.OpMin, l, number(4), api.OK)
			l[at*2] = number(6)
			wantFold(t, api.OpMax, l, number(6), api.OK)
			l[at*2] = text("a")
			e := api.ErrKind
			want := null
			if n == 1 {
				e, want = api.OK, text("a")
			}
			wantFold(t, api.OpMin, l, want, e)
			wantFold(t, api.OpMax, l, want, e)
		}
	}
}

// R3: the values stay as they are, spare capacity included.
func TestFoldMemory(t *testing.T) {
	whole := []api.Value{{Kind: api.Bool, N: 5, S: "a"}, {Kind: 9, N: 1}, {Kind: api.Bool, N: 0, S: "b"}, number(99), text("spare")}
	before := slices.Clone(whole)
	for _, op := range ops() {
		value.Fold(op, whole[:3])
		value.Fold(op, whole[3:4])
	}
	if !slices.Equal(whole, before) {
		t.Error("Fold changed its argument, or what is behind it")
	}
}

// R3: a string that is a result is memory of its own.
func TestFoldString(t *testing.T) {
	s := strings.Repeat("b", 20)
	for _, op := range []int{api.OpMin, api.OpMax} {
		v, _ := value.Fold(op, []api.Value{text(s)})
		if v != text(s) || unsafe.StringData(v.S) == unsafe.StringData(s) {
			t.Errorf("%d: %+v shares its string with the argument", op, v)
		}
	}
}
