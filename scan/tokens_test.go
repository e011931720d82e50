package scan_test

import (
	"slices"
	"strings"
	"sync"
	"testing"
	"unsafe"

	"touchmark/api"
	"touchmark/scan"
)

// sources are some with an error, and some without, each of more than four tokens ahead of it; and short ones.
func sources() []string {
	return []string{
		"", " ", ";", "a", "'a'", "'",
		"select a, b from t where a <> 'it''s' and b >= 10",
		"insert into t values (1, 'x', null), (9223372036854775808, '', true)",
		"a b 1 'c' <= ; d", "a b 1 'c' <= 'd", "a b 1 'c' <= 007 d",
		strings.Repeat("a1 'b''c' <> 5 ", 200), strings.Repeat("(", 4096), strings.Repeat("(", 4097),
	}
}

// P9.2: an iterator is used several times, and stopped at any token; each use starts from the beginning.
func TestStopAnywhere(t *testing.T) {
	for _, src := range sources() {
		want, _, _ := modelAll(src)
		tokens := scan.Tokens(src)
		for stop := range min(len(want), 300) {
			var l []api.Token
			for x := range tokens {
				l = append(l, x)
				if len(l) == stop+1 {
					break
				}
			}
			if !slices.Equal(l, want[:stop+1]) {
				t.Errorf("%.80q, stopped at %d: %v", src, stop, l)
			}
		}
		for range 3 {
			if l := slices.Collect(tokens); !slices.Equal(l, want) {
				t.Errorf("%.80q: %v", src, l)
			}
		}
	}
}

// P9.2: nothing is yielded behind the token at which the iterator was stopped.
func TestStopped(t *testing.T) {
	for _, src := range sources() {
		want, _, _ := modelAll(src)
		for stop := 1; stop <= min(len(want), 100); stop++ {
			n := 0
			scan.Tokens(src)(func(api.Token) bool {
				n++
				return n < stop
			})
			if n != stop {
				t.Errorf("%.80q: %d tokens, stopped at %d", src, n, stop)
			}
		}
	}
}

// P9.2: a use within a use, of the same iterator; and a panic in the loop ends a use, not the iterator.
func TestUsesAreApart(t *testing.T) {
	const src = "a 1 'b' <> ;"
	want, _, _ := modelAll(src)
	tokens := scan.Tokens(src)
	var outer []api.Token
	for x := range tokens {
		outer = append(outer, x)
		if inner := slices.Collect(tokens); !slices.Equal(inner, want) {
			t.Errorf("within: %v", inner)
		}
	}
	if len(want) != 4 || !slices.Equal(outer, want) {
		t.Errorf("around: %v", outer)
	}
	func() {
		defer func() { recover() }()
		for range tokens {
			panic("stop")
		}
	}()
	if l := slices.Collect(tokens); !slices.Equal(l, want) {
		t.Errorf("after a panic: %v", l)
	}
}

// P9.2: uses at the same time.
func TestUsesAtOnce(t *testing.T) {
	const src = "select a, b from t where a <> 'it''s' and b >= 10"
	want, _, _ := modelAll(src)
	tokens := scan.Tokens(src)
	results := make([][]api.Token, 8)
	var all sync.WaitGroup
	for i := range results {
		all.Add(1)
		go func() {
			defer all.Done()
			for range 100 {
				results[i] = slices.Collect(tokens)
			}
		}()
	}
	all.Wait()
	for _, l := range results {
		if !slices.Equal(l, want) {
			t.Errorf("%v", l)
		}
	}
}

// place is where in memory a string lies.
type place struct{ from, to uintptr }

func placeOf(s string) place {
	from := uintptr(unsafe.Pointer(unsafe.StringData(s)))
	return place{from, from + uintptr(len(s))}
}

// P9.4: no two strings of results lie in the same memory, nor does one in that of the argument.
func TestNoSharedMemory(t *testing.T) {
	for _, src := range sources() {
		held := []string{src}
		hold := func(l []api.Token) {
			for _, x := range l {
				for _, s := range []string{x.Text, x.S} {
					if s != "" {
						held = append(held, s)
					}
				}
			}
		}
		tokens := scan.Tokens(src)
		for range 2 {
			l, _, _ := scan.All(src)
			hold(l)
			hold(slices.Collect(tokens))
		}
		var places []place
		for _, s := range held {
			places = append(places, placeOf(s))
		}
		slices.SortFunc(places, func(a, b place) int { return int(a.from) - int(b.from) })
		for i := 1; i < len(places); i++ {
			if places[i-1].to > places[i].from {
				t.Errorf("%.80q: two strings share memory", src)
			}
		}
	}
}

// P9.4: tokens stay as they are, and an iterator goes on yielding the same, whatever happens to the argument's memory.
func TestArgumentIsNotKept(t *testing.T) {
	for _, src := range sources() {
		want, _, _ := modelAll(src)
		memory := []byte(src + "!")
		given := unsafe.String(&memory[0], len(src))
		all, e, _ := scan.All(given)
		tokens := scan.Tokens(given)
		before := slices.Collect(tokens)
		if string(memory) != src+"!" {
			t.Errorf("%.80q: the argument is changed", src)
		}
		for i := range memory {
			memory[i] = '#'
		}
		if e == api.OK && !slices.Equal(all, want) {
			t.Errorf("%.80q: All's tokens change: %v", src, all)
		}
		if !slices.Equal(before, want) || !slices.Equal(slices.Collect(tokens), want) {
			t.Errorf("%.80q: the iterator's tokens change", src)
		}
	}
}

// P9.4: each call of All makes a list of its own, spare capacity included.
func TestListsAreNew(t *testing.T) {
	for _, src := range sources() {
		want, e, _ := modelAll(src)
		if e != api.OK {
			continue
		}
		a, _, _ := scan.All(src)
		b, _, _ := scan.All(src)
		for i := range a[:cap(a)] {
			a[:cap(a)][i] = api.Token{Kind: -1}
		}
		c, _, _ := scan.All(src)
		if !slices.Equal(b, want) || !slices.Equal(c, want) {
			t.Errorf("%.80q: %v, %v", src, b, c)
		}
	}
}
