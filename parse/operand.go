package parse

import (
	"marshalling/expr"
	"marshalling/lex"
	"marshalling/value"
)

func (r *reader) operand() expr.Expr {
	t := r.peek()
	switch t.Kind {
	case lex.Number:
		r.next++
		return literal(value.Value{Kind: value.Int, N: t.N})
	case lex.Quote:
		r.next++
		return literal(value.Value{Kind: value.Text, S: t.Text})
	case lex.Word:
		return r.ref()
	case lex.Key:
		return r.truth()
	}
	return r.signed()
}

func literal(v value.Value) expr.Expr {
	return expr.Expr{Kind: expr.Lit, V: v}
}

func (r *reader) truth() expr.Expr {
	if r.may(lex.Key, "true") {
		return literal(value.Value{Kind: value.Bool, N: 1})
	}
	r.must(lex.Key, "false")
	return literal(value.Value{Kind: value.Bool})
}

func (r *reader) ref() expr.Expr {
	x := expr.Expr{Kind: expr.Ref, Var: r.word()}
	r.must(lex.Sign, ".")
	x.Field = r.word()
	return x
}

// signed reads an operand that begins with a sign.
func (r *reader) signed() expr.Expr {
	switch {
	case r.may(lex.Sign, "#"):
		return expr.Expr{Kind: expr.Count, Var: r.word()}
	case r.is(lex.Sign, "-"), r.is(lex.Sign, "!"):
		return r.unary()
	}
	r.need(r.is(lex.Sign, "("))
	r.enter()
	x := r.expression()
	r.must(lex.Sign, ")")
	r.open--
	return x
}

func (r *reader) unary() expr.Expr {
	op := r.peek().Text
	r.enter()
	kid := r.operand()
	r.open--
	return expr.Expr{Kind: expr.Unary, Op: op, Kids: []expr.Expr{kid}}
}
