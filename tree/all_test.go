package tree_test

import (
	"fmt"
	"iter"
	"slices"
	"strings"
	"testing"

	"touchmark/tree"
)

// wide is a tree on many pages, and its keys in order; the key number i has the number i.
func wide(t *testing.T) (*tree.Tree, []string) {
	t.Helper()
	_, p := newPager(t, 400)
	x := newTree(t, p)
	keys := []string{""}
	for i := range 90 {
		keys = append(keys, fmt.Sprintf("%02d", i), fmt.Sprintf("%02d%s", i, strings.Repeat("z", i)))
	}
	slices.Sort(keys)
	keys = slices.Compact(keys)
	for i := range keys {
		j := i * 67 % len(keys)
		set(t, x, keys[j], uint64(j))
	}
	return x, keys
}

// between are the keys in a range, told with their numbers.
func between(keys []string, from, to string, end bool) []string {
	var out []string
	for i, k := range keys {
		if k >= from && (!end || k < to) {
			out = append(out, told(k, uint64(i)))
		}
	}
	return out
}

// P6.3: every range between keys, and just ahead of them and behind them.
func TestRanges(t *testing.T) {
	x, keys := wide(t)
	bounds := []string{"\xff", strings.Repeat("0", 97), strings.Repeat("45", 200), strings.Repeat("\xff", 96)}
	for i, k := range keys {
		if i%3 == 0 {
			bounds = append(bounds, k, k+"\x00", k[:len(k)/2])
		}
	}
	for i, from := range bounds {
		wantEntries(t, x, from, "", false, between(keys, from, "", false)...)
		wantEntries(t, x, from, "zz", false, between(keys, from, "", false)...) // to counts for nothing
		wantEntries(t, x, "", from, true, between(keys, "", from, true)...)
		for _, to := range bounds[i%5:] {
			wantEntries(t, x, from, to, true, between(keys, from, to, true)...)
		}
	}
}

// P6.3: nil bounds are empty ones.
func TestNilBounds(t *testing.T) {
	x, keys := wide(t)
	n := 0
	for range x.All(nil, nil, false) {
		n++
	}
	if n != len(keys) {
		t.Errorf("%d entries, want %d", n, len(keys))
	}
	for k := range x.All(nil, nil, true) {
		t.Errorf("%q", k)
	}
}

// P6.3: an iterator can be stopped at any entry, and then yields nothing more.
func TestStop(t *testing.T) {
	x, keys := wide(t)
	all := x.All([]byte("1"), []byte("8"), true)
	want := between(keys, "1", "8", true)
	for stop := 1; stop <= len(want); stop++ {
		var got []string
		all(func(k []byte, v uint64) bool {
			got = append(got, told(string(k), v))
			return len(got) < stop
		})
		if !slices.Equal(got, want[:stop]) {
			t.Fatalf("stopped at %d: %q", stop, got)
		}
	}
}

// P6.3: an iterator can be used several times, also while it is in use.
func TestSeveralTimes(t *testing.T) {
	x, keys := wide(t)
	all := x.All([]byte("2"), nil, false)
	want := between(keys, "2", "", false)
	again := func() []string {
		var got []string
		for k, v := range all {
			got = append(got, told(string(k), v))
		}
		return got
	}
	n := 0
	for k, v := range all {
		if told(string(k), v) != want[n] {
			t.Errorf("entry %d: %q", n, k)
		}
		if got := again(); n%20 == 0 && !slices.Equal(got, want) {
			t.Errorf("within entry %d: %q", n, got)
		}
		n++
	}
	if got := again(); n != len(want) || !slices.Equal(got, want) {
		t.Errorf("%d entries, then %q", n, got)
	}
	if entry, ok := first(all); !ok || entry != want[0] {
		t.Errorf("the first entry: %q", entry)
	}
}

func first(all iter.Seq2[[]byte, uint64]) (string, bool) {
	for k, v := range all {
		return told(string(k), v), true
	}
	return "", false
}

// P6.3 and R3: each key yielded is memory of its own, also behind its end, and so are the bounds that the iterator keeps.
func TestYieldedKeysAreNew(t *testing.T) {
	x, keys := wide(t)
	from, to := []byte("1"), []byte("7")
	all := x.All(from, to, true)
	from[0], to[0] = '9', '0'
	for range 2 {
		var got [][]byte
		for k := range all {
			for i := range k[:cap(k)] {
				k[:cap(k)][i] ^= 0x55
			}
			got = append(got, k)
		}
		want := between(keys, "1", "7", true)
		if len(got) != len(want) {
			t.Fatalf("%d entries, want %d", len(got), len(want))
		}
		for i, k := range got {
			for j := range k {
				k[j] ^= 0x55
			}
			if !strings.HasPrefix(want[i], fmt.Sprintf("%q=", k)) {
				t.Errorf("entry %d: %q, want %s", i, k, want[i])
			}
		}
	}
	wantEntries(t, x, "", "", false, between(keys, "", "", false)...)
	if string(from) != "9" || string(to) != "0" {
		t.Errorf("the bounds became %q and %q", from, to)
	}
}

// P6.3: an iterator that was made ahead of a change yields what there is when it is used.
func TestMadeAhead(t *testing.T) {
	_, p := newPager(t, 20)
	x := newTree(t, p)
	all := x.All(nil, nil, false)
	if _, ok := first(all); ok {
		t.Error("an entry of a tree without entries")
	}
	set(t, x, "a", 3)
	if entry, _ := first(all); entry != told("a", 3) {
		t.Errorf("the first entry: %q", entry)
	}
}
