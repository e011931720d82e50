package parse_test

import (
	"reflect"
	"strings"
	"testing"

	"touchmark/api"
	"touchmark/parse"
	"touchmark/scan"
)

// chapterGrammar is the chapter's, where the parts have capitals to be told from keywords, and these marks are added: where not and - are prefixes, a ! for one that is open until the ^ and a ? for one that goes together with the next token; and a ! where a number may be 2^63.
const chapterGrammar = `
Statement = Query
 | create table NAME ( Column {, Column} )
 | create view NAME as Query
 | insert into NAME values Row {, Row}
 | delete from NAME [where Or]
 | update NAME set NAME = Or {, NAME = Or} [where Or]
 | commit | abort
Column = NAME (int | text | bool) [not null] [primary key]
Row = ( Or {, Or} )
Query = Body [order by Key {, Key}] [limit NUMBER]
Key = Or [desc]
Body = Unit {(union | except) all Unit}
Unit = Select | ( Body )
Select = select [distinct] Item {, Item} from Source {[left] join Source on Or}
 [where Or] [group by Or {, Or}] [having Or]
Item = * | Or [as NAME]
Source = NAME [as NAME] | ( Body ) as NAME
Or = And {or And}
And = Not {and Not}
Not = not? exists ( Body ) | not! Not ^ | Test
Test = Sum [(= | <> | < | <= | > | >=) Sum | is [not] null | [not] in ( Body )]
Sum = Product {(+ | -) Product}
Product = Ahead {(* | / | %) Ahead}
Ahead = -? NUMBER! | -! Ahead ^ | One
One = NUMBER | TEXT | true | false | null | NAME [. NAME] | ( Or ) | exists ( Body )
 | count ( * ) | (count | sum | min | max) ( Or )
`

// The kinds of rules: a terminal, the name of a part, one behind the other, one of several, one or none, any number.
const (
	ruleToken = iota
	rulePart
	ruleAll
	ruleOne
	ruleMaybe
	ruleMany
)

type rule struct {
	kind  int
	text  string
	rules []*rule
}

// grammar reads the chapter's notation. A sign of it that stands alone is a symbol of the language.
func grammar() map[string]*rule {
	parts := map[string]*rule{}
	text := strings.ReplaceAll(chapterGrammar, "\n ", " ")
	for _, line := range strings.Split(strings.TrimSpace(text), "\n") {
		name, rest, _ := strings.Cut(line, " = ")
		signs := notation(rest)
		parts[name] = oneOf(&signs)
	}
	return parts
}

// notation splits a rule's text; signs of the notation are told from symbols by a blank ahead of them.
func notation(s string) []string {
	var l []string
	for _, word := range strings.Fields(s) {
		var behind []string
		for len(word) > 1 && strings.Contains("[{(", word[:1]) {
			l = append(l, " "+word[:1])
			word = word[1:]
		}
		for len(word) > 1 && strings.Contains("]})", word[len(word)-1:]) {
			behind = append([]string{" " + word[len(word)-1:]}, behind...)
			word = word[:len(word)-1]
		}
		if word == "|" {
			word = " |"
		}
		l = append(append(l, word), behind...)
	}
	return l
}

func oneOf(signs *[]string) *rule {
	r := &rule{kind: ruleOne, rules: []*rule{allOf(signs)}}
	for len(*signs) > 0 && (*signs)[0] == " |" {
		*signs = (*signs)[1:]
		r.rules = append(r.rules, allOf(signs))
	}
	return r
}

func allOf(signs *[]string) *rule {
	kinds := map[string]int{" (": ruleOne, " [": ruleMaybe, " {": ruleMany}
	r := &rule{kind: ruleAll}
	for len(*signs) > 0 {
		first := (*signs)[0]
		kind, opens := kinds[first]
		if first[0] == ' ' && !opens {
			break
		}
		*signs = (*signs)[1:]
		switch {
		case opens:
			r.rules = append(r.rules, &rule{kind: kind, rules: []*rule{oneOf(signs)}})
			*signs = (*signs)[1:]
		case first[0] >= 'A' && first[0] <= 'Z' && strings.ToUpper(first) != first:
			r.rules = append(r.rules, &rule{kind: rulePart, text: first})
		default:
			r.rules = append(r.rules, &rule{kind: ruleToken, text: first})
		}
	}
	return r
}

// stack is what has to follow, the next rule first.
type stack struct {
	rule *rule
	rest *stack
}

// thread is one of the ways in which tokens may be a beginning: what has to follow, how many are open, how many keys a table has.
type thread struct {
	*stack
	open, keys int
}

// model reads by all ways at once.
type model struct {
	parts   map[string]*rule
	threads []thread // each with a terminal next, or with nothing to follow
}

func newModel(parts map[string]*rule, part string) *model {
	m := &model{parts: parts}
	m.spread(thread{stack: &stack{rule: &rule{kind: rulePart, text: part}}})
	return m
}

// spread adds the ways that a way turns into, up to the next terminal.
func (m *model) spread(t thread) {
	if t.stack == nil {
		m.threads = append(m.threads, t)
		return
	}
	r, rest := t.rule, t.rest
	follow := func(s *stack) { m.spread(thread{stack: s, open: t.open, keys: t.keys}) }
	switch r.kind {
	case ruleToken:
		if r.text == "^" {
			t.open--
			follow(rest)
			return
		}
		m.threads = append(m.threads, t)
	case rulePart:
		follow(&stack{m.parts[r.text], rest})
	case ruleAll:
		for i := len(r.rules) - 1; i >= 0; i-- {
			rest = &stack{r.rules[i], rest}
		}
		follow(rest)
	case ruleOne:
		for _, x := range r.rules {
			follow(&stack{x, rest})
		}
	case ruleMaybe:
		follow(rest)
		follow(&stack{r.rules[0], rest})
	case ruleMany:
		follow(rest)
		follow(&stack{r.rules[0], t.stack})
	}
}

func (m *model) complete() bool {
	for _, t := range m.threads {
		if t.stack == nil {
			return true
		}
	}
	return false
}

func fits(terminal string, x, next api.Token) bool {
	switch terminal {
	case "NAME":
		return x.Kind == api.TokName
	case "NUMBER", "NUMBER!":
		return x.Kind == api.TokNumber
	case "TEXT":
		return x.Kind == api.TokText
	case "not!", "not?":
		return x.Text == "not" && (next.Text == "exists") == (terminal == "not?")
	case "-!", "-?":
		return x.Text == "-" && (next.Kind == api.TokNumber) == (terminal == "-?")
	}
	return (x.Kind == api.TokWord || x.Kind == api.TokSign) && x.Text == terminal
}

// pass returns a way behind a token that fits, or the error there.
func (t thread) pass(x api.Token) (thread, api.Errno) {
	after := thread{stack: t.rest, open: t.open, keys: t.keys}
	switch terminal := t.rule.text; terminal {
	case "NUMBER":
		if x.Text == "9223372036854775808" {
			return after, api.ErrRange
		}
	case "primary":
		after.keys++
		if after.keys > 1 {
			return after, api.ErrTwice
		}
	case "(", "not!", "-!":
		after.open++
		if after.open > 256 {
			return after, api.ErrDeep
		}
	case ")":
		after.open--
	}
	return after, api.OK
}

// step goes past a token, or returns the error there.
func (m *model) step(x, next api.Token) api.Errno {
	e := api.ErrForm
	if m.complete() {
		e = api.ErrRest
	}
	before := m.threads
	m.threads = nil
	for _, t := range before {
		if t.stack == nil || !fits(t.rule.text, x, next) {
			continue
		}
		var after thread
		if after, e = t.pass(x); e == api.OK {
			m.spread(after)
		}
	}
	if len(m.threads) > 0 {
		return api.OK
	}
	return e
}

// modelError is the error that P10.1 has for a source that shall be a part of the grammar.
func modelError(parts map[string]*rule, part, src string) (api.Errno, int) {
	tokens, e, at := scan.All(src)
	if e != api.OK {
		return e, at
	}
	m := newModel(parts, part)
	for i, x := range tokens {
		var next api.Token
		if i+1 < len(tokens) {
			next = tokens[i+1]
		}
		if e := m.step(x, next); e != api.OK {
			return e, x.At
		}
	}
	if !m.complete() {
		return api.ErrShort, len(src)
	}
	return api.OK, 0
}

// wantModel holds the errors of both calls against the model, and what stands beside them.
func wantModel(t *testing.T, parts map[string]*rule, src string) {
	t.Helper()
	e, at := modelError(parts, "Statement", src)
	s, gotE, gotAt := parse.Statement(src)
	if gotE != e || gotAt != at {
		t.Fatalf("Statement %.300q: %d, %d, want %d, %d", src, gotE, gotAt, e, at)
	}
	if e != api.OK && !reflect.ValueOf(s).IsZero() {
		t.Fatalf("Statement %.300q: %+v beside an error", src, s)
	}
	e, at = modelError(parts, "Query", src)
	q, gotE, gotAt := parse.Query(src)
	if gotE != e || gotAt != at {
		t.Fatalf("Query %.300q: %d, %d, want %d, %d", src, gotE, gotAt, e, at)
	}
	if e != api.OK && !reflect.ValueOf(q).IsZero() {
		t.Fatalf("Query %.300q: %+v beside an error", src, q)
	}
	if e == api.OK && !reflect.DeepEqual(s, api.Statement{Op: api.DoQuery, Query: q}) {
		t.Fatalf("%.300q: Statement %+v, Query %+v", src, s, q)
	}
}
