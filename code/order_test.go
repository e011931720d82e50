package code_test

import (
	"bytes"
	"math"
	"math/rand"
	"slices"
	"strings"
	"testing"

	"touchmark/api"
	"touchmark/code"
)

// compareValues is the chapter's order of values.
func compareValues(a, b api.Value) int {
	switch {
	case a.Kind != b.Kind:
		return a.Kind - b.Kind
	case a.Kind == api.Text:
		return strings.Compare(a.S, b.S)
	case a.N < b.N:
		return -1
	case a.N > b.N:
		return 1
	}
	return 0
}

func compareRows(a, b api.Row) int {
	return slices.CompareFunc(a, b, compareValues)
}

func sign(n int) int {
	return min(max(n, -1), 1)
}

type keyedRow struct {
	row api.Row
	key []byte
}

// withKey makes the row's key, from which it must be decoded again.
func withKey(t *testing.T, r api.Row) keyedRow {
	t.Helper()
	key, ok := code.Key(r...)
	if !ok {
		t.Fatalf("%v has no key", r)
	}
	if got, e, at := code.Row(key); e != api.OK || at != 0 || !slices.Equal(got, r) {
		t.Errorf("%v is decoded as %v, %d, %d", r, got, e, at)
	}
	return keyedRow{r, key}
}

// holdOrder holds the order of two keys against that of their rows; different rows must have different keys.
func holdOrder(t *testing.T, a, b keyedRow) {
	t.Helper()
	if got, want := bytes.Compare(a.key, b.key), sign(compareRows(a.row, b.row)); got != want {
		t.Errorf("keys of %v and %v: %d, want %d", a.row, b.row, got, want)
	}
}

// P3.4: the values of the other tests are listed in their order: the keys have it, and so has the test's own order.
func TestOrderOfValues(t *testing.T) {
	all := keyedValues()
	for i, a := range all {
		for k, b := range all {
			x, _ := code.Value(a.v)
			y, _ := code.Value(b.v)
			want := sign(i - k)
			if bytes.Compare(x, y) != want || sign(compareValues(a.v, b.v)) != want {
				t.Errorf("%v and %v are not in the order %d", a.v, b.v, want)
			}
		}
	}
}

// P3.4: all rows of up to three of some values, each against each.
func TestOrderOfRows(t *testing.T) {
	some := []api.Value{null, number(math.MinInt64), number(-1), number(0), number(math.MaxInt64), text(""), text("\x00"), text("\x00\x01"), text("\x01"), text("a"), text("\xff"), boolean(0), boolean(1)}
	all := []keyedRow{{}}
	for i := 0; i < len(all) && len(all[i].row) < 3; i++ {
		for _, v := range some {
			all = append(all, withKey(t, append(slices.Clone(all[i].row), v)))
		}
	}
	if len(all) != 1+13+13*13+13*13*13 {
		t.Fatal(len(all))
	}
	for _, a := range all {
		for _, b := range all {
			holdOrder(t, a, b)
		}
	}
}

// P3.4: texts of all bytes that the key treats in a way of its own, each against each, with values behind them.
func TestOrderOfTexts(t *testing.T) {
	all := []keyedRow{}
	texts := []string{""}
	for i := 0; i < len(texts); i++ {
		for _, behind := range []api.Row{nil, {null}, {text("\x00")}, {boolean(1)}} {
			all = append(all, withKey(t, append(api.Row{text(texts[i])}, behind...)))
		}
		for _, x := range []string{"\x00", "\x01", "\x02", "\xfe", "\xff"} {
			if len(texts[i]) < 3 {
				texts = append(texts, texts[i]+x)
			}
		}
	}
	for _, a := range all {
		for _, b := range all {
			holdOrder(t, a, b)
		}
	}
}

// P3.4: all integers that differ from a power of 2 by little, in their order.
func TestOrderOfIntegers(t *testing.T) {
	var all []keyedRow
	for shift := range 64 {
		for _, n := range []int64{-1, 0, 1} {
			all = append(all, withKey(t, api.Row{number(1<<shift + n)}), withKey(t, api.Row{number(-1<<shift + n)}))
		}
	}
	for _, a := range all {
		for _, b := range all {
			holdOrder(t, a, b)
		}
	}
}

// randomValue makes values that are near to each other.
func randomValue(r *rand.Rand) api.Value {
	switch r.Intn(4) {
	case api.Int:
		return number(int64(r.Uint64()) >> r.Intn(64))
	case api.Text:
		b := make([]byte, r.Intn(5)*r.Intn(17))
		for i := range b {
			b[i] = "\x00\x01a\xff"[r.Intn(4)]
		}
		return text(string(b))
	case api.Bool:
		return boolean(int64(r.Intn(2)))
	}
	return null
}

// P3.4: rows by chance, each against one that begins like it.
func TestOrderByChance(t *testing.T) {
	r := rand.New(rand.NewSource(4))
	for range 20000 {
		var a api.Row
		for range r.Intn(10) {
			a = append(a, randomValue(r))
		}
		b := slices.Clone(a[:r.Intn(len(a)+1)])
		for range r.Intn(3) {
			b = append(b, randomValue(r))
		}
		holdOrder(t, withKey(t, a), withKey(t, b))
		holdOrder(t, withKey(t, b), withKey(t, a))
	}
}
