package parse_test

import (
	"math/rand"
	"strings"
	"testing"

	"touchmark/api"
	"touchmark/parse"
)

// The places at which an operand stands, from the one that lets most stand there: an or there ends nothing that is open, but it ends the operand of a not, as a + ends that of a -.
const (
	anything = iota
	behindNot
	behindMinus
)

// opener is a text that leaves one more open, and what closes it again. It may stand at some place or one that lets more stand there; another place is behind it.
type opener struct {
	opens, closes string
	at, behind    int
}

func openers() []opener {
	return []opener{
		{"(", ")", behindMinus, anything}, {"not ", "", behindNot, behindNot}, {"-", "", behindMinus, behindMinus}, {"- ", "", behindMinus, behindMinus},
		{"count(", ")", behindMinus, anything}, {"sum(", ")", behindMinus, anything}, {"min(", ")", behindMinus, anything}, {"max(", ")", behindMinus, anything},
		{"a+(", ")", behindNot, anything}, {"(a)-(", ")", behindNot, anything}, {"-5*(", ")", behindNot, anything}, {"a=-", "", behindNot, behindMinus},
		{"a or not ", "", anything, behindNot}, {"not a and not ", "", anything, behindNot}, {"a is not null or(", ")", anything, anything}, {"a=count(*)and not ", "", anything, behindNot},
		{"exists(select ", " from t)", behindMinus, anything}, {"not exists(select ", " from t)", behindNot, anything},
		{"a in(select ", " from t)", behindNot, anything}, {"a not in(select ", " from t)", behindNot, anything}, {"a in((select a from t)union all select ", " from t)", behindNot, anything},
		{"exists(select a from t where ", ")", behindMinus, anything}, {"not exists(select -a from t having ", ")", behindNot, anything},
	}
}

// nest leaves n open, with a place behind it at which anything may stand, and tells what closes all of it.
func nest(chance *rand.Rand, n int) (string, string) {
	l := openers()
	opens, closes, place := "", "", anything
	for n > 0 {
		o := l[chance.Intn(len(l))]
		if chance.Intn(12) > 0 { // the others are long
			o = l[chance.Intn(6)]
		}
		if o.at < place || n == 1 && o.behind != anything || strings.HasSuffix(opens, "not ") && strings.HasPrefix(o.opens, "exists") {
			continue
		}
		opens, closes, place = opens+o.opens, o.closes+closes, o.behind
		n--
	}
	return opens, closes
}

// P10.1, P10.2: one less than the limit, the limit, and one more, of openers of one kind.
func TestDeepOfOneKind(t *testing.T) {
	for _, o := range openers() {
		if o.behind <= o.at && 256*len(o.opens+o.closes) < 4000 {
			wantQueryOK(t, "select "+strings.Repeat(o.opens, 255)+"a"+strings.Repeat(o.closes, 255)+" from t")
			wantQueryOK(t, "select "+strings.Repeat(o.opens, 256)+"a"+strings.Repeat(o.closes, 256)+" from t")
		}
	}
	for _, c := range []struct {
		src string
		at  int
	}{
		{strings.Repeat("(", 257) + "a", 256}, {strings.Repeat("-", 257) + "a", 256}, {strings.Repeat("not ", 257) + "a", 1024},
		{strings.Repeat("min(", 257) + "a", 256*4 + 3}, {strings.Repeat("a+(", 257), 256*3 + 2}, {strings.Repeat("-(", 129), 256}, {strings.Repeat("not(", 129), 512}, {strings.Repeat("not -(", 86), 85*6 + 4},
	} {
		wantQueryError(t, "select "+c.src, api.ErrDeep, 7+c.at)
	}
	wantQueryOK(t, strings.Repeat("(", 256)+"select a from t"+strings.Repeat(")", 256))
	wantQueryError(t, strings.Repeat("(", 257)+"select a from t", api.ErrDeep, 256)
	wantQueryOK(t, strings.Repeat("(", 255)+"select count(*) from t"+strings.Repeat(")", 255))
	wantQueryError(t, strings.Repeat("(", 255)+"select (count(*)) from t", api.ErrDeep, 255+13)
	wantQueryOK(t, "select a from "+strings.Repeat("(", 256)+"select a from t"+strings.Repeat(")", 256)+" as t")
	wantQueryError(t, "select a from "+strings.Repeat("(", 257), api.ErrDeep, 14+256)
}

func wantQueryOK(t *testing.T, src string) {
	t.Helper()
	if _, e, at := parse.Query(src); e != api.OK || at != 0 {
		t.Errorf("%s: %d, %d", src, e, at)
	}
}

// P10.1, P10.2: what can stand where 256 are open.
func TestDeepest(t *testing.T) {
	chance := rand.New(rand.NewSource(106))
	parts := grammar()
	for i, s := range []string{"a", "5", "-5", "- 9223372036854775808", "a - 5", "a is not null", "'('", "a or b and c = d", "- 5 * - 5", "true"} {
		opens, closes := nest(chance, 256)
		wantQueryOK(t, "select "+opens+s+closes+" from t")
		if i < 3 {
			wantModel(t, parts, "select "+opens+s+closes+" from t")
			wantModel(t, parts, "select "+opens+s)
		}
	}
	for _, s := range []string{
		"^(a", "^-a", "^-(", "^-", "^- -5", "5 - ^-a", "5 - - 5 * ^-'a'", "^-)", "^not a", "^not", "^not )", "^not not exists (select", "not exists^(", "exists^(", "count^(*)", "sum^(a", "a in^(", "a not in^(select", "a = b or ^not c", "a + ^(", "a is null and ^(", "a is not null or ^not b", "^(select", "^()",
	} {
		opens, _ := nest(chance, 256)
		src, at := marked("select " + opens + s)
		wantQueryError(t, src, api.ErrDeep, at)
	}
	for _, s := range []string{"not exists ^a", "not exists ^)", "count ^a", "a not ^(", "a ^(", "a = ^not b", "- 5 ^(", "a in ^not", "^)", "a = b ^not in ("} {
		opens, _ := nest(chance, 256)
		src, at := marked("select " + opens + s)
		wantQueryError(t, src, api.ErrForm, at)
	}
	for _, s := range []string{"not exists", "exists", "count", "a not", "a in", "- 5", "a is not"} {
		opens, _ := nest(chance, 256)
		wantQueryError(t, "select "+opens+s, api.ErrShort, 7+len(opens+s))
	}
	opens, _ := nest(chance, 256)
	wantQueryError(t, "select "+opens+"9223372036854775808", api.ErrRange, 7+len(opens))
}

// P10.1, P10.2: what is complete is open no more; one after the other, there may be any number.
func TestOpenNoMore(t *testing.T) {
	for _, s := range []string{"(a)", "-a", "--a", "count(*)", "min(a)", "-(-a)"} {
		wantQueryOK(t, "select "+strings.Repeat(s+"+", 400)+"a from t")
		wantQueryOK(t, "select "+strings.Repeat(s+",", 400)+"a from t")
		wantQueryOK(t, "select "+strings.Repeat("(", 253)+strings.Repeat(s+"*", 300)+"a"+strings.Repeat(")", 253)+" from t")
	}
	wantQueryOK(t, "select "+strings.Repeat("not a and ", 300)+"a from t")
	wantQueryOK(t, "select "+strings.Repeat("not(a)or ", 300)+"a from t")
	wantQueryOK(t, "select "+strings.Repeat("not not a,", 300)+"a from t")
	wantQueryOK(t, "select a from t where "+strings.Repeat("not exists(select a from t)and ", 120)+"a")
	if _, e, at := parse.Statement("insert into t values " + strings.Repeat("(-(a)),", 500) + "(not a)"); e != api.OK {
		t.Errorf("%d, %d", e, at)
	}
	if _, e, at := parse.Statement("insert into t values (" + strings.Repeat("(", 255) + "a" + strings.Repeat(")", 255) + ")"); e != api.OK {
		t.Errorf("%d, %d", e, at)
	}
	wantError(t, "insert into t values ("+strings.Repeat("(", 256), api.ErrDeep, 22+255)
	wantError(t, "update t set a = "+strings.Repeat("(", 257), api.ErrDeep, 17+256)
	wantError(t, "delete from t where "+strings.Repeat("-", 257)+"a", api.ErrDeep, 20+256)
	wantError(t, "create view v as "+strings.Repeat("(", 257), api.ErrDeep, 17+256)
}

// P10.1, P10.2: openers by chance, and tokens by chance behind them.
func TestDeepByChance(t *testing.T) {
	chance := rand.New(rand.NewSource(107))
	parts, l := grammar(), terminals()
	for range 100 {
		opens, closes := nest(chance, 250+chance.Intn(10))
		src := "select " + opens
		for range chance.Intn(6) {
			src += " " + l[chance.Intn(len(l))]
		}
		wantModel(t, parts, src)
		wantModel(t, parts, "select "+opens+"a"+closes[:chance.Intn(len(closes)+1)])
	}
}
