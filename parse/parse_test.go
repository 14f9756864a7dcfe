package parse

import (
	"math/rand"
	"strconv"
	"strings"
	"testing"

	"marshalling/api"
	"marshalling/expr"
	"marshalling/lex"
	"marshalling/query"
	"marshalling/value"
)

func number(n int64) expr.Expr { return literal(value.Value{Kind: value.Int, N: n}) }

func text(s string) expr.Expr { return literal(value.Value{Kind: value.Text, S: s}) }

func truth(n int64) expr.Expr { return literal(value.Value{Kind: value.Bool, N: n}) }

func ref(v, f string) expr.Expr { return expr.Expr{Kind: expr.Ref, Var: v, Field: f} }

func count(v string) expr.Expr { return expr.Expr{Kind: expr.Count, Var: v} }

func un(op string, kid expr.Expr) expr.Expr {
	return expr.Expr{Kind: expr.Unary, Op: op, Kids: []expr.Expr{kid}}
}

func bin(a expr.Expr, op string, b expr.Expr) expr.Expr {
	return expr.Expr{Kind: expr.Binary, Op: op, Kids: []expr.Expr{a, b}}
}

// TestExpr (P10.2): operands, and what binds first.
func TestExpr(t *testing.T) {
	a, b, one := ref("a", "x"), count("b"), number(1)
	for s, want := range map[string]expr.Expr{
		"1": one, " 9223372036854775807\n": number(1<<63 - 1), "'it is'": text("it is"), "true": truth(1), "false": truth(0), "a.x": a, "a . x": a, "#b": b, "# b": b,
		"-1": un("-", one), "- - 1": un("-", un("-", one)), "!a.x": un("!", a), "-a.x*1": bin(un("-", a), "*", one), "!-#b": un("!", un("-", b)),
		"(1)": one, "((a.x))": a, "-(a.x+1)": un("-", bin(a, "+", one)), "-(1)-1": bin(un("-", one), "-", one),
		"1+2*3": bin(one, "+", bin(number(2), "*", number(3))), "1*2+3": bin(bin(one, "*", number(2)), "+", number(3)), "(1+2)*3": bin(bin(one, "+", number(2)), "*", number(3)),
		"a.x-#b-1": bin(bin(a, "-", b), "-", one), "a.x-(#b-1)": bin(a, "-", bin(b, "-", one)), "a.x/#b%1*1": bin(bin(bin(a, "/", b), "%", one), "*", one),
		"a.x<1==#b>1": bin(bin(a, "<", one), "==", bin(b, ">", one)), "a.x==1!=true": bin(bin(a, "==", one), "!=", truth(1)), "1<=1>=1": bin(bin(one, "<=", one), ">=", one),
		"true||false&&true||false":  bin(bin(truth(1), "||", bin(truth(0), "&&", truth(1))), "||", truth(0)),
		"a.x+1<#b*1&&!true||1-1==1": bin(bin(bin(bin(a, "+", one), "<", bin(b, "*", one)), "&&", un("!", truth(1))), "||", bin(bin(one, "-", one), "==", one)),
		"'+'+'+'":                   bin(text("+"), "+", text("+")),
	} {
		x, at, e := Expr(s)
		if !expr.Same(x, want) || at != len(s) || e != api.OK {
			t.Error(s, expr.Put(x), at, e)
		}
	}
	for i, first := range expr.Ops() {
		for k, second := range expr.Ops() {
			want := bin(bin(a, first, b), second, one)
			if expr.Level(second) > expr.Level(first) {
				want = bin(a, first, bin(b, second, one))
			}
			if x, _, _ := Expr("a.x" + first + "#b" + second + "1"); !expr.Same(x, want) {
				t.Error(i, k, expr.Put(x))
			}
		}
	}
}

// place tells s without its `@`, and where that stood.
func place(s string) (string, int) {
	ahead, rest, _ := strings.Cut(s, "@")
	return ahead + rest, len(ahead)
}

// TestExprWrong (P10.2, P10.3): the first word that may not stand there is at the @.
func TestExprWrong(t *testing.T) {
	for _, s := range []string{
		"@", " @", "  1 @1", "@+", "1+@", "1 + @+ 1", "@)", "(@", "(1@", "(1 @]", "(@)", "1 @)", "a@", "a @1", "a.@", "a. @1", "a.x@.y", "@.x", "a.@BY", "@BY", "true @false", "@WITHIN", "#@", "# @1", "#@true", "@]",
		"1 @= 1", "1 @| 1", "1 @; 1", "1@!1", "1 @! 1", "-@", "!@", "-@+1", "a.x @a.y", "@[1]", "1 @, 2", "@:", "'a' @'b'", "((1) @1)", "a.x @# b",
	} {
		text, want := place(s)
		x, at, e := Expr(text)
		if e != api.ErrParse || at != want || !expr.Same(x, expr.Expr{}) {
			t.Error(s, expr.Put(x), at, e)
		}
	}
	for _, s := range []string{"@$", "1 + @$", ") @$", "a.x @01", "@'a", "1 @9223372036854775808", ") @" + strings.Repeat("w", 21)} {
		text, want := place(s)
		if x, at, e := Expr(text); e != api.ErrLex || at != want || !expr.Same(x, expr.Expr{}) {
			t.Error(s, at, e)
		}
	}
	if x, at, e := Expr(strings.Repeat(")", 2049)); e != api.ErrLimit || at != 2048 || !expr.Same(x, expr.Expr{}) {
		t.Error(at, e)
	}
}

// TestNest (P10.3): what is open at once, of brackets and signs.
func TestNest(t *testing.T) {
	open := func(l ...string) string { return strings.Join(l, "") }
	for s, want := range map[string]int{
		strings.Repeat("(", 12) + "1" + strings.Repeat(")", 12):                                              -1,
		strings.Repeat("(", 13) + "1" + strings.Repeat(")", 13):                                              12,
		strings.Repeat("(", 13):                                                                              12,
		strings.Repeat("(", 12) + "]":                                                                        12,
		strings.Repeat("-", 12) + "1":                                                                        -1,
		strings.Repeat("-", 13) + "1":                                                                        12,
		strings.Repeat("!", 12) + "(1)":                                                                      12,
		strings.Repeat("-(", 6) + "1" + strings.Repeat(")", 6):                                               -1,
		strings.Repeat("-(", 6) + "-1" + strings.Repeat(")", 6):                                              12,
		strings.Repeat("-(", 6) + "1+(1)" + strings.Repeat(")", 6):                                           14,
		open(strings.Repeat("(", 11), "-1+-1", strings.Repeat(")", 11)):                                      -1,
		open(strings.Repeat("(", 11), "-1+--1", strings.Repeat(")", 11)):                                     15,
		open(strings.Repeat("(", 11), "-(1)", strings.Repeat(")", 11)):                                       12,
		open(strings.Repeat("(", 11), "(1)*(1)-(-1)", strings.Repeat(")", 11)):                               20,
		open(strings.Repeat("(", 11), "(1)*(1)--1", strings.Repeat(")", 11)):                                 -1,
		strings.TrimSuffix(strings.Repeat(strings.Repeat("-", 12)+"1+", 20), "+"):                            -1,
		strings.TrimSuffix(strings.Repeat(strings.Repeat("(", 12)+"1"+strings.Repeat(")", 12)+"*", 20), "*"): -1,
	} {
		x, at, e := Expr(s)
		switch {
		case want < 0:
			if e != api.OK || !expr.Right(x) || at != len(s) {
				t.Error(s, at, e)
			}
		case strings.HasSuffix(s, "]"):
			if e != api.ErrParse || at != want {
				t.Error(s, at, e)
			}
		case e != api.ErrLimit || at != want || !expr.Same(x, expr.Expr{}):
			t.Error(s, at, e)
		}
		// In a part the [ is one more that is open.
		_, at, e = Parse("q=A a[" + s + "]WITHIN 1")
		if deep := strings.Repeat("(", 12) + "1"; strings.HasPrefix(s, deep) && (e != api.ErrLimit || at != 6+11) {
			t.Error(s, at, e)
		}
	}
	if _, at, e := Parse("q=A a[" + strings.Repeat("(", 11) + "1" + strings.Repeat(")", 11) + "]WITHIN 1"); e != api.OK {
		t.Error(at, e)
	}
	if _, at, e := Parse("q=A a[true];B b[" + strings.Repeat("-", 11) + "1]WITHIN 1 EMIT x:" + strings.Repeat("-", 12) + "1"); e != api.OK {
		t.Error(at, e)
	}
	if s, want := place("q=A a WITHIN 1 EMIT x:" + strings.Repeat("-", 12) + "@-1"); true {
		if _, at, e := Parse(s); e != api.ErrLimit || at != want {
			t.Error(at, e)
		}
	}
}

func part(v string, streams ...string) query.Part { return query.Part{Streams: streams, Var: v} }

// TestParse (P10.1): all that a query may have.
func TestParse(t *testing.T) {
	not, plus, with := part("b", "B"), part("b", "B", "C"), part("a", "A")
	not.Not, plus.Plus, with.Pred = true, true, []expr.Expr{bin(ref("a", "x"), "<", number(9))}
	notWith := not
	notWith.Pred = []expr.Expr{bin(ref("a", "x"), "==", ref("b", "x"))}
	plusWith := plus
	plusWith.Pred = []expr.Expr{un("!", truth(0))}
	for s, want := range map[string]query.Query{
		"q = A a WITHIN 0":                                      {Name: "q", Parts: []query.Part{part("a", "A")}},
		"q=A a;!B b WITHIN 5":                                   {Name: "q", Parts: []query.Part{part("a", "A"), not}, Within: 5},
		"q = STRICT A a ; B | C b+ WITHIN 1000000":              {Name: "q", Strict: true, Parts: []query.Part{part("a", "A"), plus}, Within: 1000000},
		"q=A a[a.x<9];B|C b+[!false]WITHIN 3BY x EMIT u:1,w:#b": {Name: "q", Parts: []query.Part{with, plusWith}, Within: 3, By: "x", Out: []query.Output{{Field: "u", E: number(1)}, {Field: "w", E: count("b")}}},
		"q = A a ; !B b[a.x == b.x] ; A c WITHIN 1 EMIT a: a.x": {Name: "q", Parts: []query.Part{part("a", "A"), notWith, part("c", "A")}, Within: 1, Out: []query.Output{{Field: "a", E: ref("a", "x")}}},
		"q = q q WITHIN 1 BY q EMIT q: q.q":                     {Name: "q", Parts: []query.Part{part("q", "q")}, Within: 1, By: "q", Out: []query.Output{{Field: "q", E: ref("q", "q")}}},
		"q = A|B|C|D a WITHIN 1":                                {Name: "q", Parts: []query.Part{part("a", "A", "B", "C", "D")}, Within: 1},
	} {
		q, at, e := Parse(s)
		if !query.Same(q, want) || at != len(s) || e != api.OK || !query.Right(q) {
			t.Error(s, query.Put(q), at, e)
		}
	}
}

// many joins the numbered ones.
func many(n int, one func(string) string, between string) string {
	l := []string{}
	for i := range n {
		l = append(l, one(strconv.Itoa(i)))
	}
	return strings.Join(l, between)
}

// TestParseWrong (P10.1, P10.3, P2): the error is at the @.
func TestParseWrong(t *testing.T) {
	parts := func(n int) string { return many(n, func(s string) string { return "A a" + s }, " ; ") }
	alts := func(n int) string { return many(n, func(s string) string { return "S" + s }, " | ") }
	outs := func(n int) string { return many(n, func(s string) string { return "x" + s + ": 1" }, ", ") }
	wrong := map[api.Errno][]string{
		api.ErrParse: {
			"@", "@= A a WITHIN 1", "@1", "@BY = A a WITHIN 1", "q@", "q @A", "q @== A a WITHIN 1", "q = @", "q = @; A a", "q = @WITHIN 1", "q = STRICT @STRICT A a WITHIN 1", "q = STRICT@",
			"q = @!A a WITHIN 1", "q = STRICT @!A a WITHIN 1", "q = STRICT A a ; @!B b WITHIN 1", "q = A a ; !@!B b WITHIN 1", "q = A @", "q = A @; B b", "q = A @1", "q = A | @", "q = A | @| B", "q = A | @A a WITHIN 1", "q = A | B | @A b", "q = A @BY",
			"q = A a@", "q = A a @b", "q = A a ; B @a WITHIN 1", "q = A a ; !B @a WITHIN 1", "q = A a @| B b", "q = A a + @+", "q = A a ; !B b @+ WITHIN 1", "q = A a[@] WITHIN 1", "q = A a[1 @", "q = A a[1 @; B b", "q = A a[1] @[1]", "q = A a[1] @+", "q = A a+[1] @2",
			"q = A a ; @", "q = A a ; @WITHIN 1", "q = A a ; @; B b", "q = A a @BY x WITHIN 1", "q = A a WITHIN@", "q = A a WITHIN @x", "q = A a WITHIN @-1", "q = A a WITHIN @1000001", "q = A a WITHIN @9223372036854775807 BY", "q = A a WITHIN @BY",
			"q = A a WITHIN 1 @1", "q = A a WITHIN 1 @x", "q = A a WITHIN 1 @; B b", "q = A a WITHIN 1 @WITHIN 2", "q = A a WITHIN 1 BY@", "q = A a WITHIN 1 BY @1", "q = A a WITHIN 1 BY @EMIT x: 1", "q = A a WITHIN 1 BY x @BY y", "q = A a WITHIN 1 BY x @,",
			"q = A a WITHIN 1 EMIT@", "q = A a WITHIN 1 EMIT @1", "q = A a WITHIN 1 EMIT x@", "q = A a WITHIN 1 EMIT x @= 1", "q = A a WITHIN 1 EMIT x:@", "q = A a WITHIN 1 EMIT x: @,", "q = A a WITHIN 1 EMIT x: 1,@", "q = A a WITHIN 1 EMIT x: 1, @x: 2", "q = A a WITHIN 1 EMIT x: 1 @BY y", "q = A a WITHIN 1 EMIT x: 1 @y: 2", "q = A a WITHIN 1 EMIT x: (1@",
			"q = " + parts(8) + " @9", "q = " + alts(4) + " a @|", "q = A a WITHIN 1 EMIT " + outs(6) + " @;",
		},
		api.ErrLimit: {
			"q = " + parts(8) + " ; @A z WITHIN 1", "q = " + parts(8) + " ;@", "q = " + parts(8) + " ; @WITHIN 1", "q = " + parts(8) + " ; @!A z WITHIN 1", "q = STRICT " + parts(8) + " ; @!A", "q = " + parts(8) + " ; @A a0",
			"q = " + alts(4) + " | @S9 a WITHIN 1", "q = " + alts(4) + " |@", "q = " + alts(4) + " | @S0 a", "q = " + alts(4) + " | @;", "q = A a ; !" + alts(4) + " | @x",
			"q = A a WITHIN 1 EMIT " + outs(6) + ", @z: 1", "q = A a WITHIN 1 EMIT " + outs(6) + ",@", "q = A a WITHIN 1 EMIT " + outs(6) + ", @x0", "q = A a WITHIN 1 EMIT " + outs(6) + ", @,",
			"q = A a[" + strings.Repeat("(", 11) + "@(",
		},
		api.ErrLex: {"q = A a WITHIN @01", "@$", "q = ; ; A a @$ WITHIN 1", "= = @'", "q = A a WITHIN @9223372036854775808"},
	}
	for want, l := range wrong {
		for _, s := range l {
			text, place := place(s)
			q, at, e := Parse(text)
			if e != want || at != place || !query.Same(q, query.Query{}) {
				t.Error(s, query.Put(q), at, e)
			}
		}
	}
	for _, s := range []string{"q = " + parts(8) + " WITHIN 1", "q = " + alts(4) + " a WITHIN 1", "q = A a WITHIN 1 EMIT " + outs(6)} {
		if q, at, e := Parse(s); e != api.OK || !query.Right(q) {
			t.Error(s, at, e)
		}
	}
	if q, at, e := Parse("$" + strings.Repeat(" ", 2048)); e != api.ErrLimit || at != 2048 || !query.Same(q, query.Query{}) {
		t.Error(at, e)
	}
}

// someExpr tells a right expression, in which no more than that is open at once.
func someExpr(r *rand.Rand, deep int) expr.Expr {
	ops := expr.Ops()
	switch n := r.Intn(8); {
	case deep == 0 || n < 3:
		return []expr.Expr{number(0), number(77), text(""), text("a b"), truth(0), truth(1), ref("a", "x"), ref("b", "y"), count("a")}[r.Intn(9)]
	case n < 5:
		return un([]string{"-", "!"}[r.Intn(2)], someExpr(r, deep-1))
	}
	return bin(someExpr(r, deep-1), ops[r.Intn(len(ops))], someExpr(r, deep-1))
}

func someQuery(r *rand.Rand) query.Query {
	q := query.Query{Name: "q", Strict: r.Intn(3) == 0, Within: r.Int63n(1000001)}
	for i := range 1 + r.Intn(4) {
		p := query.Part{Streams: []string{"A", "B", "C", "D"}[:1+r.Intn(4)], Var: "v" + strconv.Itoa(i)}
		p.Not = !q.Strict && i > 0 && r.Intn(3) == 0
		p.Plus = !p.Not && r.Intn(3) == 0
		if r.Intn(2) == 0 {
			p.Pred = []expr.Expr{someExpr(r, 4)}
		}
		q.Parts = append(q.Parts, p)
	}
	if r.Intn(2) == 0 {
		q.By = "x"
	}
	for i := range r.Intn(4) {
		q.Out = append(q.Out, query.Output{Field: "f" + strconv.Itoa(i), E: someExpr(r, 3)})
	}
	return q
}

// TestRound (P10.4, T5): what is put is parsed as it was.
func TestRound(t *testing.T) {
	r := rand.New(rand.NewSource(1))
	parsed := 0
	for range 5000 {
		q := someQuery(r)
		s := query.Put(q)
		got, at, e := Parse(s)
		if len(s) > api.MaxText {
			if e != api.ErrLimit || at != api.MaxText {
				t.Error(at, e)
			}
			continue
		}
		parsed++
		if e != api.OK || at != len(s) || !query.Same(got, q) {
			t.Error(s, query.Put(got), at, e)
		}
		x := someExpr(r, 5)
		if got, _, e := Expr(expr.Put(x)); e != api.OK || !expr.Same(got, x) {
			t.Error(expr.Put(x), e)
		}
	}
	if parsed < 3000 {
		t.Error("too few", parsed)
	}
}

// TestAnyWords (P10.3, P10.4): whatever is parsed is right, and is put and parsed as the same; what is ahead of an error is none.
func TestAnyWords(t *testing.T) {
	r := rand.New(rand.NewSource(2))
	parsed := 0
	for range 30000 {
		words, _, _ := lex.All(query.Put(someQuery(r)))
		for range r.Intn(3) {
			i, k := r.Intn(len(words)), r.Intn(len(words))
			switch r.Intn(3) {
			case 0:
				words[i], words[k] = words[k], words[i]
			case 1:
				words[i] = words[k]
			case 2:
				words = append(words[:i], words[min(i+1+r.Intn(2), len(words)-1):]...)
			}
		}
		s := lex.Put(words)
		q, at, e := Parse(s)
		if e == api.OK {
			parsed++
			again, _, e := Parse(query.Put(q))
			if at != len(s) || !query.Right(q) || e != api.OK && e != api.ErrLimit || e == api.OK && !query.Same(q, again) {
				t.Error(s, at, e)
			}
			continue
		}
		if !query.Same(q, query.Query{}) || at < 0 || at > len(s) {
			t.Error(s, at, e)
		}
		if _, before, e := Parse(s[:at]); e != api.OK && (e == api.ErrLex || before != at) {
			t.Error(s, at, before, e)
		}
	}
	if parsed < 1000 {
		t.Error("too few", parsed)
	}
}
