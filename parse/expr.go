package parse

import "touchmark/api"

// The precedences, from the operators that bind least on. No operator behind an operand has that of a prefix not.
const (
	orLevel = iota + 1
	andLevel
	notLevel
	testLevel
	sumLevel
	productLevel
)

// operator is a keyword or symbol that goes on with an expression. Those with other than an expression behind them have no op: it depends on more than this token.
type operator struct {
	bytes string
	level int
	op    int
}

var operators = [...]operator{
	{"or", orLevel, api.OpOr},
	{"and", andLevel, api.OpAnd},
	{"=", testLevel, api.OpEq},
	{"<>", testLevel, api.OpNe},
	{"<", testLevel, api.OpLt},
	{"<=", testLevel, api.OpLe},
	{">", testLevel, api.OpGt},
	{">=", testLevel, api.OpGe},
	{"is", testLevel, 0},
	{"in", testLevel, 0},
	{"not", testLevel, 0},
	{"+", sumLevel, api.OpAdd},
	{"-", sumLevel, api.OpSub},
	{"*", productLevel, api.OpMul},
	{"/", productLevel, api.OpDiv},
	{"%", productLevel, api.OpRem},
}

func (p *parser) expr() api.Expr {
	return p.climb(orLevel)
}

// climb parses an operand and the operators behind it, of the level least and those above it.
func (p *parser) climb(least int) api.Expr {
	left, most := p.operand(least)
	for {
		o := p.operator()
		if o.level < least || o.level > most {
			return left
		}
		p.take()
		left = p.operation(o, left)
		most = o.level
		if most == testLevel { // a test is no operand of a test: a = b = c is none
			most--
		}
	}
}

// operand parses what stands ahead of the operators, and tells the highest level that an operator behind it can have.
func (p *parser) operand(least int) (api.Expr, int) {
	if least <= notLevel && p.sees("not") {
		return p.not(), andLevel
	}
	return p.ahead(), productLevel
}

// operator returns the operator that is next, or one of no level.
func (p *parser) operator() operator {
	for _, o := range operators {
		if p.sees(o.bytes) {
			return o
		}
	}
	return operator{}
}

// operation parses what belongs to an operator behind its token.
func (p *parser) operation(o operator, left api.Expr) api.Expr {
	switch o.bytes {
	case "is":
		op := api.OpIsNull
		if p.accept("not") {
			op = api.OpNotNull
		}
		p.expect("null")
		return apply(op, left)
	case "in":
		return p.in(api.OpIn, left)
	case "not":
		p.expect("in")
		return p.in(api.OpNotIn, left)
	}
	return apply(o.op, left, p.climb(o.level+1))
}

func (p *parser) in(op int, left api.Expr) api.Expr {
	return api.Expr{Op: op, Args: []api.Expr{left}, Query: p.bodyInParens()}
}

// not parses a prefix not with its operand; not exists is one operator, and the not in it is not open.
func (p *parser) not() api.Expr {
	if p.peek(1).Text == "exists" {
		p.take()
		return p.exists(api.OpNotExists)
	}
	return within(p, func() api.Expr { return apply(api.OpNot, p.climb(notLevel)) })
}

func (p *parser) exists(op int) api.Expr {
	p.expect("exists")
	return api.Expr{Op: op, Query: p.bodyInParens()}
}

// ahead parses prefixes - and what they stand ahead of; a - ahead of a number belongs to the number, and is not open.
func (p *parser) ahead() api.Expr {
	if !p.sees("-") {
		return p.one()
	}
	if t := p.peek(1); t.Kind == api.TokNumber {
		p.take()
		p.take()
		return literal(api.Value{Kind: api.Int, N: -t.N}) // 2^63, told as the minimum, is its own negative
	}
	return within(p, func() api.Expr { return apply(api.OpNeg, p.ahead()) })
}

// one parses an expression without operators around it.
func (p *parser) one() api.Expr {
	switch t := p.peek(0); t.Kind {
	case api.TokNumber:
		return literal(api.Value{Kind: api.Int, N: p.number()})
	case api.TokText:
		p.take()
		return literal(api.Value{Kind: api.Text, S: t.S})
	case api.TokName:
		return p.reference()
	}
	return p.word()
}

// word parses an expression that begins with a keyword or a parenthesis.
func (p *parser) word() api.Expr {
	switch {
	case p.sees("("):
		return inParens(p, p.expr)
	case p.sees("exists"):
		return p.exists(api.OpExists)
	case p.accept("true"):
		return literal(api.Value{Kind: api.Bool, N: 1})
	case p.accept("false"):
		return literal(api.Value{Kind: api.Bool})
	case p.accept("null"):
		return literal(api.Value{})
	case p.accept("count"):
		return p.aggregate(api.OpCount)
	case p.accept("sum"):
		return p.aggregate(api.OpSum)
	case p.accept("min"):
		return p.aggregate(api.OpMin)
	case p.accept("max"):
		return p.aggregate(api.OpMax)
	}
	p.fail(api.ErrForm)
	return api.Expr{}
}

// reference parses the name of a column, with that of its source or without.
func (p *parser) reference() api.Expr {
	x := api.Expr{Op: api.OpName, Name: p.name()}
	if p.accept(".") {
		x.Table, x.Name = x.Name, p.name()
	}
	return x
}

// aggregate parses what stands behind the keyword of an aggregate function.
func (p *parser) aggregate(op int) api.Expr {
	return inParens(p, func() api.Expr {
		if op == api.OpCount && p.accept("*") {
			return api.Expr{Op: api.OpCountAll}
		}
		return apply(op, p.expr())
	})
}

func literal(v api.Value) api.Expr {
	return api.Expr{Op: api.OpValue, Value: v}
}

// apply returns an operator with its operands.
func apply(op int, operands ...api.Expr) api.Expr {
	return api.Expr{Op: op, Args: operands}
}
