package parse_test

import (
	"math/rand"
	"reflect"
	"strings"
	"testing"

	"touchmark/api"
	"touchmark/parse"
)

// terminals are one token of each kind, and every keyword and symbol.
func terminals() []string {
	return strings.Fields("a 7 9223372036854775808 'x' " +
		"select distinct from join left on where group by having order desc limit union all except as and or not null true false is in exists count sum min max create table view int text bool primary key insert into values delete update set commit abort " +
		"( ) , . * + - / % = <> < <= > >=")
}

func wantError(t *testing.T, src string, e api.Errno, at int) {
	t.Helper()
	if s, gotE, gotAt := parse.Statement(src); gotE != e || gotAt != at || !reflect.ValueOf(s).IsZero() {
		t.Errorf("Statement %.300q: %+v, %d, %d, want %d, %d", src, s, gotE, gotAt, e, at)
	}
}

// wantQueryError is for a query, of which both calls tell the same.
func wantQueryError(t *testing.T, src string, e api.Errno, at int) {
	t.Helper()
	if q, gotE, gotAt := parse.Query(src); gotE != e || gotAt != at || !reflect.ValueOf(q).IsZero() {
		t.Errorf("Query %.300q: %+v, %d, %d, want %d, %d", src, q, gotE, gotAt, e, at)
	}
	wantError(t, src, e, at)
}

// marked takes the mark ^ out of a source, and tells where it was.
func marked(s string) (string, int) {
	at := strings.IndexByte(s, '^')
	return s[:at] + s[at+1:], at
}

// P10.1, P10.2: the chapter's examples.
func TestExamples(t *testing.T) {
	wantQueryError(t, "select a from", api.ErrShort, 13)
	wantQueryError(t, "select from t", api.ErrForm, 7)
	wantQueryError(t, "select a from t t", api.ErrRest, 16)
	wantQueryError(t, "select 9223372036854775808 from t", api.ErrRange, 7)
	wantQueryError(t, "select a = b = c from t", api.ErrForm, 13)
}

// P10.1, P10.2: queries with a token, behind the mark, that may not stand there.
func TestWrongQueries(t *testing.T) {
	for _, s := range []string{
		"^from t", "^a", "^7", "^'select'", "^)", "^,", "(^)", "(^a)", "(^'select' a from t)",
		"select ^, a from t", "select a ^b from t", "select a ^) from t", "select a,^, b from t", "select a, ^from t", "select distinct ^distinct a from t", "select ^all a from t",
		"select * ^as a from t", "select *^* from t", "select t.^* from t", "select a.^7 from t", "select a.^select from t", "select a.b^.c from t", "select a as ^7 from t", "select a as ^'b' from t", "select a as ^int from t",
		"select a from ^7", "select a from ^'t'", "select a from ^select a from t", "select a from (^t)", "select a from (^)", "select a from (select a from t) ^t", "select a from (select a from t) ^where a", "select a from t as ^where a", "select a from (select a from t ^t) as t",
		"select a from t join ^join u on a", "select a from t left ^u on a", "select a from t left ^left join u on a", "select a from t join u ^where a", "select a from t join u as v ^join w on a", "select a from t join (select a from u) ^on a",
		"select a from t where ^group by a", "select a from t group ^a", "select a from t group by ^having a", "select a from t group by a, ^having a", "select a from t having ^limit 3",
		"select a from t order ^a", "select a from t order by ^desc", "select a from t order by a desc, ^desc", "select a from t limit ^-1", "select a from t limit ^a", "select a from t limit ^'3'", "select a from t limit ^(3)",
		"(select a from t ^order by a)", "(select a from t ^limit 1)", "select a from (select a from t ^order by a) as t", "select a from t where exists (select a from t ^limit 1)",
		"select a from t union ^select a from u", "select a from t except ^(select a from u)", "select a from t union all ^all select a from u", "select a from t union all ^u", "select a ^union all select a from t", "select a from t union all (^a)",
		"select (^) from t", "select (a^, b) from t", "select (a ^from t", "select (^select a from t) from t", "select (^*) from t", "select a + ^from t", "select a + ^not b from t", "select - ^not a from t", "select a = ^not b from t", "select a + ^* b from t", "select a not ^from t", "select a not ^b from t", "select a not ^exists (select a from t) from t", "select a not ^null from t",
		"select ^in (select a from t) from t", "select not ^and a from t", "select a or ^or b from t", "select ^/ a from t", "select ^+ a from t", "select a is ^a from t", "select a is ^true from t", "select a is not ^not null from t", "select a is not ^true from t", "select a is null ^is null from t", "select a is null ^= b from t", "select a = b ^is null from t", "select a = b ^in (select a from t) from t", "select a = b ^not in (select a from t) from t", "select a in (select a from t) ^= b from t", "select a < b ^> c from t",
		"select a in ^select a from t", "select a in ^a from t", "select a in (^1, 2) from t", "select a in (^a) from t", "select exists ^a from t", "select exists (^a) from t", "select not exists ^a from t", "select not exists ((^a)) from t",
		"select count ^from t", "select count ^* from t", "select count(^) from t", "select count(* ^+ 1) from t", "select count(*^, a) from t", "select sum(^*) from t", "select min(^*) from t", "select max(^*) from t", "select sum(^distinct a) from t", "select min ^a from t", "select (count(a ^b) from t", "select a^(b) from t", "select true^.a from t", "select 'a'^.b from t", "select 1^.5 from t", "select 1 ^a from t", "select 'a' ^'b' from t",
		"select not exists (select a from t) ^= b from t", "select not exists (select a from t) ^is null from t", "select not not exists (select a from t) ^+ 1 from t", "select not a = b ^= c from t",
	} {
		src, at := marked(s)
		wantQueryError(t, src, api.ErrForm, at)
	}
}

// P10.1: statements other than queries, with a token that may not stand there; none of them is a query.
func TestWrongStatements(t *testing.T) {
	for _, s := range []string{
		"^table t", "^view v", "^values (1)", "^set a = 1", "^into t values (1)", "^where a", "^order by a", "^limit 1", "^t", "^true", "^not a", "^abortt",
		"create ^t", "create ^create table t (a int)", "create ^commit", "create table ^(a int)", "create table ^table (a int)", "create table ^'t' (a int)", "create table t ^a int", "create table t ^as select a from t", "create table t (^)", "create table t (^int)", "create table t (a ^)", "create table t (a^, b int)", "create table t (a ^b)", "create table t (a ^not null)", "create table t (a int ^b int)", "create table t (a int ^int)", "create table t (a int, ^)", "create table t (a int ^null)", "create table t (a int not ^a)", "create table t (a int not ^primary key)", "create table t (a int not null ^not null)", "create table t (a int primary ^a)", "create table t (a int primary ^not null)", "create table t (a int ^key)", "create table t (a int primary key ^not null)", "create table t (a int primary key ^primary key)", "create table t (a int not null ^null)", "create table t (a ^count)", "create table t (a^.b int)",
		"create view ^as select a from t", "create view v ^select a from t", "create view v ^(a) as select a from t", "create view v as ^t", "create view v as ^commit", "create view v as (select a from t ^limit 3)", "create view v as (^)",
		"insert ^t values (1)", "insert into ^values (1)", "insert into t ^(a) values (1)", "insert into t ^select a from t", "insert into t values ^1", "insert into t values (^)", "insert into t values (1 ^values)", "insert into t values (1,^)", "insert into t values (^*)", "insert into t values (1), ^2", "insert into t values (1 ^2)", "insert into t values (1 ^as a)", "insert into t values (^select a from t)",
		"delete ^t", "delete ^* from t", "delete from ^where a", "delete from ^(select a from t)", "delete from t where ^from", "update ^set a = 1", "update t ^a = 1", "update t set ^where a", "update t set a ^1", "update t set a ^, b = 1", "update t set a = ^", "update t set a = ^, b = 1", "update t set a = 1, ^where a", "update t set t^.a = 1", "update t set a ^<> 1", "update t set ^1 = 1", "update t set a = 1 where ^set",
	} {
		src, at := marked(s)
		if at == len(src) {
			wantError(t, src, api.ErrShort, at)
			continue
		}
		wantError(t, src, api.ErrForm, at)
		if _, e, at := parse.Query(src); e != api.ErrForm || at != 0 {
			t.Errorf("Query %s: %d, %d", src, e, at)
		}
	}
}

// P10.1, P10.2: a token behind a complete statement.
func TestRest(t *testing.T) {
	for _, s := range []string{
		"select a from t ^t", "select a from t ^7", "select a from t ^9223372036854775808", "select a from t^)", "(select a from t)^)", "select a from t^, u", "select a from t^.b", "select a from t as u ^v", "select a from t ^select a from u", "select a from t ^commit", "(select a from t) ^select a from u", "(select a from t) ^as u", "(select a from t) ^where a", "((select a from t)) ^join u on a",
		"select a from t join u on a ^on b", "select a from t where a ^where b", "select a from t where a ^join u on b", "select a from t where a ^b", "select a from t where a = b ^= c", "select a from t where a = b ^is null", "select a from t where a = b ^not in (select a from t)", "select a from t where a is null ^is null", "select a from t where a is not null ^< b", "select a from t where a in (select a from t) ^in (select a from t)", "select a from t where a.b^.c", "select a from t where not exists (select a from u) ^= b", "select a from t where not exists (select a from u) ^is null", "select a from t where not not exists (select a from u) ^* 2", "select a from t where a ^as b", "select a from t where a^, b", "select a from t where a^)", "select a from t where count(*)^(", "select a from t where a ^null", "select a from t where a ^exists (select a from t)",
		"select a from t group by a ^group by b", "select a from t group by a ^where b", "select a from t group by a ^desc", "select a from t having a ^having b", "select a from t having a ^group by b", "select a from t having a^, b",
		"select a from t order by a ^order by b", "select a from t order by a ^union all select a from t", "select a from t order by a ^where b", "select a from t order by a desc ^desc", "select a from t limit 3 ^limit 3", "select a from t limit 3^, 4", "select a from t limit 3 ^order by a", "select a from t limit 3 ^+ 1", "select a from t ^desc", "select a from t ^primary key",
	} {
		src, at := marked(s)
		wantQueryError(t, src, api.ErrRest, at)
		wantError(t, "create view v as "+src, api.ErrRest, 17+at)
	}
	for _, s := range []string{
		"commit ^commit", "abort ^7", "commit^(", "create table t (a int) ^a", "create table t (a int)^, u (a int)", "create table t (a int)^)", "insert into t values (1) ^(2)", "insert into t values (1) ^where a", "insert into t values (1)^)", "delete from t ^a", "delete from t ^as u", "delete from t^, u", "delete from t ^set a = 1", "delete from t where a ^limit 1", "update t set a = 1 ^b = 2", "update t set a = 1 = 2 ^= 3", "update t set a = 1 ^order by a", "update t set a = 1 where a^, b = 2",
	} {
		src, at := marked(s)
		wantError(t, src, api.ErrRest, at)
	}
}

// P10.1, P10.2: sources that end too early, blanks at their ends included.
func TestShort(t *testing.T) {
	l := strings.Fields("select distinct a as b , * , count ( * ) , not exists ( select - 1 from t ) from t as u join v on a is not null left join ( select a . b from t ) as w on a not in ( select a from t ) where a or b group by a , b having a = b union all select a from t order by a desc , b limit")
	wantQueryError(t, "", api.ErrShort, 0)
	wantQueryError(t, " \n ", api.ErrShort, 3)
	parts := grammar()
	for n := 1; n <= len(l); n++ {
		src := strings.Join(l[:n], " ")
		if e, _ := modelError(parts, "Query", src); e != api.OK {
			wantQueryError(t, src, api.ErrShort, len(src))
			wantQueryError(t, " "+src+"\t\r\n", api.ErrShort, len(src)+4)
		}
	}
	for _, src := range []string{
		"create", "create table", "create table t", "create table t (", "create table t (a", "create table t (a int", "create table t (a int not", "create table t (a int not null", "create table t (a int primary", "create table t (a int primary key", "create table t (a int,", "create view", "create view v", "create view v as", "create view v as select a from",
		"insert", "insert into", "insert into t", "insert into t values", "insert into t values (", "insert into t values (1", "insert into t values (1,", "insert into t values (1),", "delete", "delete from", "delete from t where", "update", "update t", "update t set", "update t set a", "update t set a =", "update t set a = 1,", "update t set a = 1 where",
	} {
		wantError(t, src, api.ErrShort, len(src))
		wantError(t, src+"  ", api.ErrShort, len(src)+2)
	}
}

// P10.1, P10.2: 2^63 without a - ahead of it, where a number can stand and where none can.
func TestRange(t *testing.T) {
	const n = "9223372036854775808"
	for _, s := range []string{"select ^# from t", "select -(^#) from t", "select a - ^# from t", "select a = ^# from t", "select - - 1 + ^# from t", "select - -# + ^# from t", "select a from t limit ^#", "select a from t where a in (select ^# from t)", "select a from t order by ^#", "select count(^#) from t", "select ^#", "select a from t limit ^# limit 3", "select (^# # from t", "select ^# + # from"} {
		src, at := marked(s)
		at += (len(n) - 1) * strings.Count(src[:at], "#")
		wantQueryError(t, strings.ReplaceAll(src, "#", n), api.ErrRange, at)
	}
	wantError(t, "insert into t values (-"+n+", "+n+")", api.ErrRange, 44)
	wantError(t, "update t set a = "+n, api.ErrRange, 17)
	wantQueryError(t, n, api.ErrForm, 0)
	wantQueryError(t, "select a as "+n, api.ErrForm, 12)
	wantQueryError(t, "select a "+n+" from t", api.ErrForm, 9)
	wantQueryError(t, "select a from "+n, api.ErrForm, 14)
	wantQueryError(t, "select a from t limit -"+n, api.ErrForm, 22)
	wantError(t, "update t set "+n+" = 1", api.ErrForm, 13)
	wantQueryError(t, "select a from t "+n, api.ErrRest, 16)
}

// P10.1: a second primary key, where one can stand and where none can.
func TestTwice(t *testing.T) {
	for _, s := range []string{"create table t (a int primary key, b int ^primary key)", "create table t (a int primary key, b int ^primary", "create table t (a int primary key, b int ^primary a", "create table t (a int primary key, b int ^primary primary", "create table t (a int primary key, b text, a int not null ^primary key, c int primary key)", "create table t (a int not null primary key, a int ^primary key) 7"} {
		src, at := marked(s)
		wantError(t, src, api.ErrTwice, at)
	}
	for _, s := range []string{"create table t (a int primary key ^primary key)", "create table t (a int primary key, b ^primary key)", "create table t (a int primary key, b int not ^primary key)", "create table t (a int primary key, ^primary key)", "create table t (a int primary key, b int ^key)"} {
		src, at := marked(s)
		wantError(t, src, api.ErrForm, at)
	}
	wantError(t, "create table t (a int primary key) primary key", api.ErrRest, 35)
}

// P10.1, P10.2: an error of scan is told ahead of any other, wherever it is.
func TestScanErrors(t *testing.T) {
	for _, ahead := range []string{"", "select a from t ", "select from t ", "select a from t t ", "select a from ", ") ", "select 9223372036854775808 ", "create table t (a int primary key, b int primary key ", "select " + strings.Repeat("(", 257) + " "} {
		wantQueryError(t, ahead+"; a", api.ErrSign, len(ahead))
		wantQueryError(t, ahead+"Select", api.ErrSign, len(ahead))
		wantQueryError(t, ahead+"007", api.ErrNumber, len(ahead))
		wantQueryError(t, ahead+"9223372036854775809", api.ErrNumber, len(ahead))
		wantQueryError(t, ahead+"'a", api.ErrQuote, len(ahead))
		wantQueryError(t, ahead+strings.Repeat("a", 17), api.ErrBytes, len(ahead))
		wantQueryError(t, ahead+strings.Repeat(" ", 4097-len(ahead)), api.ErrBytes, 4096)
	}
	wantQuery(t, "select a from t"+strings.Repeat(" ", 4096-15), selects("t"))
	wantQueryError(t, "select a from t"+strings.Repeat(" ", 4095-15)+"t", api.ErrRest, 4095)
	wantQueryError(t, "select a from"+strings.Repeat(" ", 4096-13), api.ErrShort, 4096)
}

// P10.2: a statement that is no query.
func TestQueryOnly(t *testing.T) {
	for _, src := range []string{"commit", "abort", "create table t (a int)", "create view v as select a from t", "insert into t values (1)", "delete from t", "update t set a = 1", "create", "commit commit"} {
		if q, e, at := parse.Query("  " + src); e != api.ErrForm || at != 2 || !reflect.ValueOf(q).IsZero() {
			t.Errorf("Query %s: %+v, %d, %d", src, q, e, at)
		}
	}
}

// P10.1, P10.2: behind every beginning of at most three tokens, every token.
func TestShortSources(t *testing.T) {
	parts := grammar()
	var all func(src string, n int)
	all = func(src string, n int) {
		wantModel(t, parts, src)
		if e, _ := modelError(parts, "Statement", src); n == 0 || e != api.OK && e != api.ErrShort {
			return
		}
		for _, x := range terminals() {
			all(src+x+" ", n-1)
		}
	}
	all("", 4)
}

// P10.1, P10.2: behind beginnings that grow by chance, every token.
func TestBeginningsByChance(t *testing.T) {
	parts := grammar()
	chance := rand.New(rand.NewSource(101))
	for range 12 {
		src := ""
		for range 25 {
			var may []string
			for _, x := range terminals() {
				wantModel(t, parts, src+x)
				if e, _ := modelError(parts, "Statement", src+x); e == api.OK || e == api.ErrShort {
					may = append(may, x)
				}
			}
			if len(may) == 0 {
				break
			}
			src += may[chance.Intn(len(may))] + " "
		}
	}
}
