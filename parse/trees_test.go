package parse_test

import (
	"math/rand"
	"reflect"
	"strings"
	"testing"

	"touchmark/api"
	"touchmark/parse"
)

// made are statements that a writer makes up, with the trees that they have.
func made(seed int64, n int, each func(w *writer, s words, want api.Statement)) {
	w := newWriter(seed)
	for range n {
		s, want := w.statement()
		each(w, s, want)
	}
}

// P10.1, P10.2, P10.3: trees of all parts of the grammar, whatever the blanks.
func TestTreesByChance(t *testing.T) {
	var ops [api.DoAbort + 1]int
	long := 0
	made(102, 4000, func(w *writer, s words, want api.Statement) {
		for range 2 {
			src := w.text(s)
			if len(src) > api.MaxSource {
				continue
			}
			if len(src) > 1000 {
				long++
			}
			got, e, at := parse.Statement(src)
			if e != api.OK || at != 0 || !reflect.DeepEqual(got, want) {
				t.Fatalf("%s: %d, %d, %+v, want %+v", src, e, at, got, want)
			}
			q, e, at := parse.Query(src)
			if isQuery := want.Op == api.DoQuery; isQuery != (e == api.OK) || !isQuery && (e != api.ErrForm || src[at:at+len(s[0])] != s[0]) || !reflect.DeepEqual(q, want.Query) && isQuery {
				t.Fatalf("%s: %d, %d, %+v, want %+v", src, e, at, q, want.Query)
			}
			ops[want.Op]++
		}
	})
	for op := api.DoQuery; op <= api.DoAbort; op++ {
		if ops[op] < 150 {
			t.Errorf("%d statements with the Op %d", ops[op], op)
		}
	}
	if long < 100 {
		t.Errorf("%d long statements", long)
	}
}

// P10.1, P10.2: the beginnings of statements.
func TestBeginningsOfStatements(t *testing.T) {
	parts := grammar()
	made(103, 150, func(w *writer, s words, want api.Statement) {
		for i := range min(len(s), 60) {
			wantModel(t, parts, strings.Join(s[:i], " "))
			wantModel(t, parts, w.text(s[:i]))
		}
	})
}

// P10.1, P10.2: statements in which a token is left out, stands in another's place or stands between.
func TestWrongTokens(t *testing.T) {
	parts, l := grammar(), terminals()
	made(104, 600, func(w *writer, s words, want api.Statement) {
		s = s[:min(len(s), 60)]
		for range 6 {
			i := w.Intn(len(s))
			x := words{l[w.Intn(len(l))]}
			if w.maybe() { // one that stands elsewhere may well stand here, too
				x = words{s[w.Intn(len(s))]}
			}
			for _, wrong := range []words{part(s[:i], s[i+1:]), part(s[:i], x, s[i+1:]), part(s[:i], x, s[i:]), part(s, x)} {
				wantModel(t, parts, strings.Join(wrong, " "))
			}
		}
	})
}

// P10.1: any bytes, and any tokens.
func TestAnything(t *testing.T) {
	parts, l := grammar(), terminals()
	chance := rand.New(rand.NewSource(105))
	for range 20000 {
		src := make([]byte, chance.Intn(40))
		for i := range src {
			src[i] = byte(chance.Intn(256))
			if chance.Intn(4) > 0 {
				src[i] = " a7'()*-+,.=<>"[chance.Intn(14)]
			}
		}
		wantModel(t, parts, string(src))
		s := "select "
		for range chance.Intn(12) {
			s += l[chance.Intn(len(l))] + " "
		}
		wantModel(t, parts, s)
	}
}
