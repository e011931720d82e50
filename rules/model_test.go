package rules_test

import (
	"slices"
	"strconv"
	"strings"

	"touchmark/api"
	"touchmark/plan"
	"touchmark/value"
)

// The model is the chapter's table, as it stands there: trees are held against its first column, and made of its second one.

// parts is what the table's letters stand for, and the tables of which the plans are.
type parts struct {
	tables []api.Table
	of     map[string]tree
}

// row is a row of the chapter's table, of one rule, which can have several. Its condition also says what p' and L' are.
type row struct {
	of, makes tree
	condition func(m parts) bool
}

// written returns a row of the table as it is written.
func written(of, makes string, condition func(m parts) bool) row {
	return row{bare(of), bare(makes), condition}
}

// bare returns the tree of a text that can be a single word.
func bare(s string) tree {
	t := read(s)
	if len(t.list) == 1 {
		return t.list[0]
	}
	return t
}

func always(parts) bool { return true }

// total asks that the terms for which letters stand be total.
func total(letters string) func(m parts) bool {
	return func(m parts) bool {
		for l := range strings.SplitSeq(letters, " ") {
			if !isTotal(m.of[l]) {
				return false
			}
		}
		return true
	}
}

// also asks for several conditions, one after the other.
func also(l ...func(m parts) bool) func(m parts) bool {
	return func(m parts) bool {
		for _, c := range l {
			if !c(m) {
				return false
			}
		}
		return true
	}
}

// refers asks that all columns of p be columns of the plan x, or of the plan y behind it.
func refers(to string) func(m parts) bool {
	return func(m parts) bool {
		w := m.width(m.of["x"])
		for _, c := range columns(m.of["p"]) {
			if to == "x" && c >= w || to == "y" && c < w {
				return false
			}
		}
		return true
	}
}

var table = [20][]row{
	{written("select p (select q x)", "select (and q p) x", total("p"))},
	{written("select (and p q) x", "select q (select p x)", total("q"))},
	{written("select p (project L x)", "project L (select p' x)", also(total("p L"), substitute("p", "L")))},
	{written("select p (join q x y)", "join (and q p) x y", total("p"))},
	{written("join (and p q) x y", "select q (join p x y)", total("q"))},
	{written("join (and p q) x y", "join q (select p x) y", also(total("p q"), refers("x")))},
	{written("join (and p q) x y", "join q x (select p' y)", also(total("p q"), refers("y"), shiftDown))},
	{written("join p x y", "project L (join p' y x)", exchanged)},
	{written("join p (join q x y) z", "join (and q p) x (join true y z)", total("p q"))},
	{written("select p (left q x y)", "left q (select p x) y", also(total("p q"), refers("x")))},
	{written("select p (left q x y)", "select p (join q x y)", also(total("p"), rejectsNulls))},
	{written("select p (union x y)", "union (select p x) (select p y)", always), written("select p (except x y)", "except (select p x) (select p y)", total("p"))},
	{written("select p (distinct x)", "distinct (select p x)", total("p"))},
	{written("select p (group L A x)", "group L A (select p' x)", also(total("p L A"), keysAlone, substitute("p", "L")))},
	{written("project L (project M x)", "project L' x", also(total("M"), substitute("L", "M")))},
	{written("distinct (distinct x)", "distinct x", always), written("distinct (group L A x)", "group L A x", always)},
	{written("select true x", "x", always)},
	{written("select p (semi q x y)", "semi q (select p x) y", total("p q")), written("select p (anti q x y)", "anti q (select p x) y", total("p q"))},
	{written("select p (scan T)", "select p (seek T lo hi)", also(total("p"), keyed))},
	{written("x", "x'", computed)},
}

// isTotal is for terms, and for lists of terms and of aggregate functions.
func isTotal(t tree) bool {
	n := 2
	switch t.head() {
	case "", "[", "countall", "count", "min", "max":
		n = max(len(t.list)-1, 0)
	case "isnull", "notnull", "not":
		n = 1
	case "and", "or", "eq", "ne", "lt", "le", "gt", "ge":
	default:
		return false
	}
	return len(t.list) == 0 || len(t.list) == n+1 && !slices.ContainsFunc(t.list[1:], func(a tree) bool { return !isTotal(a) })
}

// column returns the number of the column that a tree is, or false.
func (t tree) column() (int, bool) {
	n, err := strconv.Atoi(t.atom)
	return n, err == nil
}

func (t tree) isValue() bool {
	_, ok := t.column()
	return t.list == nil && !ok
}

func columns(t tree) []int {
	if n, ok := t.column(); ok {
		return []int{n}
	}
	var l []int
	for _, a := range t.list {
		l = append(l, columns(a)...)
	}
	return l
}

// with returns a tree with something else for each column.
func with(t tree, column func(i int) tree) tree {
	if n, ok := t.column(); ok {
		return column(n)
	}
	made := tree{atom: t.atom}
	for _, a := range t.list {
		made.list = append(made.list, with(a, column))
	}
	return made
}

func shift(t tree, by func(i int) int) tree {
	return with(t, func(i int) tree { return atom(strconv.Itoa(i + by(i))) })
}

func (m parts) columns(x tree) []api.Column {
	l, e := plan.Check(m.tables, x.plan())
	if e != api.OK {
		panic(e)
	}
	return l
}

func (m parts) width(x tree) int { return len(m.columns(x)) }

func substitute(p, l string) func(m parts) bool {
	return func(m parts) bool {
		m.of[p+"'"] = with(m.of[p], func(i int) tree { return m.of[l].list[i+1] })
		return true
	}
}

func shiftDown(m parts) bool {
	w := m.width(m.of["x"])
	m.of["p'"] = shift(m.of["p"], func(int) int { return -w })
	return true
}

func exchanged(m parts) bool {
	x, y := m.width(m.of["x"]), m.width(m.of["y"])
	m.of["p'"] = shift(m.of["p"], func(i int) int {
		if i < x {
			return y
		}
		return -x
	})
	l := []tree{atom("[")}
	for i := range x {
		l = append(l, atom(strconv.Itoa(y+i)))
	}
	for i := range y {
		l = append(l, atom(strconv.Itoa(i)))
	}
	m.of["L"] = tree{list: l}
	return true
}

func rejectsNulls(m parts) bool {
	p, w := m.of["p"], m.width(m.of["x"])
	if !slices.Contains(strings.Fields("notnull eq ne lt le gt ge"), p.head()) {
		return false
	}
	return slices.ContainsFunc(p.list[1:], func(a tree) bool {
		i, ok := a.column()
		return ok && i >= w
	})
}

func keysAlone(m parts) bool {
	keys := len(m.of["L"].list) - 1
	for _, c := range columns(m.of["p"]) {
		if c >= keys {
			return false
		}
	}
	return keys > 0 && !strings.Contains(write(m.of["A"]), "sum")
}

func conjuncts(p tree) []tree {
	if p.head() != "and" {
		return []tree{p}
	}
	return slices.Concat(conjuncts(p.list[1]), conjuncts(p.list[2]))
}

func keyed(m parts) bool {
	for _, t := range m.tables {
		if t.Name != m.of["T"].atom {
			continue
		}
		for _, c := range conjuncts(m.of["p"]) {
			if len(c.list) != 3 || c.list[1].atom != strconv.Itoa(t.Key) || !c.list[2].isValue() || c.list[2].atom == "null" {
				continue
			}
			m.of["lo"], m.of["hi"] = c.list[2], c.list[2]
			switch c.head() {
			case "eq":
				return true
			case "le", "lt":
				m.of["lo"] = atom("null")
				return true
			case "ge", "gt":
				m.of["hi"] = atom("null")
				return true
			}
		}
	}
	return false
}

func computed(m parts) bool {
	x := m.of["x"]
	made := tree{list: slices.Clone(x.list)}
	for i, a := range x.list {
		if a.isPlan() {
			continue
		}
		t, ok := compute(a)
		if !ok {
			continue
		}
		made.list[i] = t
		m.of["x'"] = made
		return x.head() != "seek" && slices.EqualFunc(m.columns(x), m.columns(made), func(a, b api.Column) bool { return a.Kind == b.Kind })
	}
	return false
}

// compute computes the first operation of values that has no error, wherever in a tree it is.
func compute(t tree) (tree, bool) {
	made := tree{list: slices.Clone(t.list)}
	values := 0
	for i, a := range t.list {
		if x, ok := compute(a); ok {
			made.list[i] = x
			return made, true
		}
		if i > 0 && a.isValue() {
			values++
		}
	}
	n := slices.Index(termNames, t.head())
	if values == 0 || values < len(t.list)-1 || n < api.OpNeg || n > api.OpNotNull {
		return t, false
	}
	v, e := value.Do(n, toValue(t.list[1].atom), toValue(t.list[values].atom))
	return atom(tellValue(v)), e == api.OK
}

// match holds a tree against the table's first column.
func (m parts) match(pattern, t tree) bool {
	switch {
	case strings.Contains(" p q x y z L M A T ", " "+pattern.atom+" "):
		m.of[pattern.atom] = t
		return true
	case pattern.list == nil:
		return pattern.atom == t.atom && t.list == nil
	case len(pattern.list) != len(t.list):
		return false
	}
	for i, a := range pattern.list {
		if !m.match(a, t.list[i]) {
			return false
		}
	}
	return true
}

// make makes a tree of the table's second column.
func (m parts) make(pattern tree) tree {
	if t, ok := m.of[pattern.atom]; ok {
		return t
	}
	made := tree{atom: pattern.atom}
	for _, a := range pattern.list {
		made.list = append(made.list, m.make(a))
	}
	return made
}

// numbered returns what a function makes of the plan with a number in a tree, and how many plans are in the tree.
func numbered(t tree, at int, f func(tree) tree) (tree, int) {
	made, n := tree{atom: t.atom, list: slices.Clone(t.list)}, 1
	for i, a := range t.list {
		if a.isPlan() {
			x, k := numbered(a, at-n, f)
			made.list[i] = x
			n += k
		}
	}
	if at == 0 {
		made = f(t)
	}
	return made, n
}

// modelApply returns what Apply makes of a plan, given its tree, as a text, or "".
func modelApply(t []api.Table, p tree, rule, at int) string {
	applied := false
	made, _ := numbered(p, at, func(x tree) tree {
		for _, r := range table[rule] {
			m := parts{t, map[string]tree{}}
			if m.match(r.of, x) && r.condition(m) {
				applied = true
				return m.make(r.makes)
			}
		}
		return x
	})
	if !applied {
		return ""
	}
	if _, e := plan.Check(t, made.plan()); e != api.OK {
		return ""
	}
	return write(made)
}
