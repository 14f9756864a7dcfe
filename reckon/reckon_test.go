package reckon

import (
	"math"
	"math/big"
	"math/rand"
	"strings"
	"testing"

	"marshalling/event"
	"marshalling/expr"
	"marshalling/value"
)

func lit(v value.Value) expr.Expr { return expr.Expr{V: v} }

func text(s string) value.Value { return value.Value{Kind: value.Text, S: s} }

func ref(v, f string) expr.Expr { return expr.Expr{Kind: expr.Ref, Var: v, Field: f} }

func count(v string) expr.Expr { return expr.Expr{Kind: expr.Count, Var: v} }

func un(op string, kid expr.Expr) expr.Expr {
	return expr.Expr{Kind: expr.Unary, Op: op, Kids: []expr.Expr{kid}}
}

func bin(a expr.Expr, op string, b expr.Expr) expr.Expr {
	return expr.Expr{Kind: expr.Binary, Op: op, Kids: []expr.Expr{a, b}}
}

// num is a tree of n that is right, below 0 too.
func num(n int64) expr.Expr {
	if n == math.MinInt64 {
		return bin(num(n+1), "-", num(1))
	}
	if n < 0 {
		return un("-", num(-n))
	}
	return lit(number(n))
}

// edges are numbers near which sums and products wrap, and some between.
func edges() []int64 {
	l := []int64{0, 1, 2, 3, 7, 10, 1 << 31, 1 << 32, 3037000499, 3037000500, 1 << 62, math.MaxInt64 - 1, math.MaxInt64, math.MinInt64, math.MinInt64 + 1}
	for _, n := range l {
		l = append(l, -n)
	}
	r := rand.New(rand.NewSource(1))
	for range 60 {
		l = append(l, int64(r.Uint64()>>r.Intn(64)))
	}
	return l
}

// TestWhole (P8.1, P8.4): exact numbers, or none; nothing wraps.
func TestWhole(t *testing.T) {
	check := func(name string, a, b int64, want *big.Int, got int64, ok bool) {
		t.Helper()
		if want == nil || !want.IsInt64() {
			if got != 0 || ok {
				t.Error(name, a, b, got, ok)
			}
		} else if got != want.Int64() || !ok {
			t.Error(name, a, b, got, ok, want)
		}
	}
	for _, a := range edges() {
		x := big.NewInt(a)
		n, ok := Neg(a)
		check("neg", a, 0, new(big.Int).Neg(x), n, ok)
		for _, b := range edges() {
			y := big.NewInt(b)
			n, ok = Add(a, b)
			check("add", a, b, new(big.Int).Add(x, y), n, ok)
			n, ok = Sub(a, b)
			check("sub", a, b, new(big.Int).Sub(x, y), n, ok)
			n, ok = Mul(a, b)
			check("mul", a, b, new(big.Int).Mul(x, y), n, ok)
			var quo, rem *big.Int
			if b != 0 {
				quo, rem = new(big.Int).Quo(x, y), new(big.Int).Rem(x, y)
			}
			n, ok = Div(a, b)
			check("div", a, b, quo, n, ok)
			n, ok = Rem(a, b)
			check("rem", a, b, rem, n, ok)
		}
	}
	if n, ok := Rem(math.MinInt64, -1); n != 0 || !ok {
		t.Error(n, ok)
	}
	if n, ok := Rem(-7, 2); n != -1 || !ok {
		t.Error(n, ok)
	}
}

func binds() []Bind {
	return []Bind{
		{"a", []string{"x", "y", "x"}, []event.Event{{Time: 1, V: []value.Value{number(1), text("one"), number(99)}}, {Time: 2, V: []value.Value{number(2), text("two"), number(98)}}}},
		{"b", []string{"x", "odd", "gone"}, []event.Event{{V: []value.Value{truth(true), {Kind: 9}}}}},
		{"none", []string{"x"}, nil},
		{"a", []string{"z"}, []event.Event{{V: []value.Value{number(5)}}}},
		{"short", []string{"x", "y"}, []event.Event{{V: []value.Value{number(1), number(2)}}, {V: []value.Value{number(3)}}}},
	}
}

// TestReckon (P8.2): each Kind of expression, and all that there may not be.
func TestReckon(t *testing.T) {
	yes, no, none := truth(true), truth(false), value.Value{}
	one, bad := num(1), ref("gone", "x")
	for i, c := range []struct {
		e    expr.Expr
		want value.Value
	}{
		{one, number(1)}, {lit(text("q")), text("q")}, {lit(no), no},
		{ref("a", "x"), number(2)}, {ref("a", "y"), text("two")}, {ref("b", "x"), yes}, {ref("short", "x"), number(3)},
		{bad, none}, {ref("a", "z"), none}, {ref("none", "x"), none}, {ref("b", "odd"), none}, {ref("b", "gone"), none}, {ref("short", "y"), none},
		{count("a"), number(2)}, {count("none"), number(0)}, {count("b"), number(1)}, {count("gone"), none},
		{un("-", num(5)), number(-5)}, {un("-", un("-", num(5))), number(5)}, {un("-", num(math.MinInt64)), none}, {un("-", lit(yes)), none}, {un("-", lit(text("a"))), none},
		{un("!", lit(yes)), no}, {un("!", lit(no)), yes}, {un("!", one), none}, {un("!", lit(text(""))), none}, {un("-", bad), none}, {un("!", bad), none},
		{bin(lit(yes), "&&", lit(no)), no}, {bin(lit(yes), "&&", lit(yes)), yes}, {bin(lit(no), "||", lit(no)), no}, {bin(lit(no), "||", lit(yes)), yes},
		{bin(lit(no), "&&", bad), no}, {bin(lit(yes), "||", bad), yes}, {bin(lit(yes), "&&", bad), none}, {bin(lit(no), "||", bad), none},
		{bin(bad, "&&", lit(no)), none}, {bin(bad, "||", lit(yes)), none}, {bin(lit(no), "&&", one), no}, {bin(lit(yes), "&&", one), none}, {bin(lit(no), "||", one), none},
		{bin(num(0), "&&", lit(no)), none}, {bin(one, "||", lit(yes)), none}, {bin(one, "&&", one), none}, {bin(lit(text("")), "||", lit(text(""))), none},
		{bin(one, "==", one), yes}, {bin(one, "!=", one), no}, {bin(lit(text("a")), "==", lit(text("b"))), no}, {bin(lit(yes), "!=", lit(no)), yes},
		{bin(one, "==", lit(yes)), none}, {bin(num(0), "!=", lit(text(""))), none}, {bin(one, "==", bad), none},
		{bin(one, "<", num(2)), yes}, {bin(num(2), "<", num(2)), no}, {bin(num(2), "<=", num(2)), yes}, {bin(num(3), "<=", num(2)), no},
		{bin(num(-3), ">", num(-4)), yes}, {bin(num(2), ">", num(2)), no}, {bin(num(2), ">=", num(2)), yes}, {bin(one, ">=", num(2)), no},
		{bin(lit(no), "<", lit(yes)), yes}, {bin(lit(yes), "<", lit(no)), no}, {bin(lit(text("a")), "<", lit(text("ab"))), yes}, {bin(lit(text("B")), ">", lit(text("a"))), no},
		{bin(one, "<", lit(yes)), none}, {bin(lit(text("1")), ">=", one), none},
		{bin(lit(text("a")), "+", lit(text("b"))), text("ab")}, {bin(lit(text("")), "+", lit(text(""))), text("")},
		{bin(lit(text(strings.Repeat("a", 40))), "+", lit(text(strings.Repeat("a", 24)))), text(strings.Repeat("a", 64))},
		{bin(lit(text(strings.Repeat("a", 40))), "+", lit(text(strings.Repeat("a", 25)))), none},
		{bin(lit(text("a")), "-", lit(text("b"))), none}, {bin(lit(text("a")), "*", one), none}, {bin(lit(yes), "+", lit(yes)), none}, {bin(lit(yes), "%", lit(yes)), none}, {bin(one, "+", lit(text("a"))), none},
		{bin(num(7), "+", num(2)), number(9)}, {bin(num(7), "-", num(9)), number(-2)}, {bin(num(7), "*", num(-2)), number(-14)}, {bin(num(-7), "/", num(2)), number(-3)}, {bin(num(-7), "%", num(2)), number(-1)},
		{bin(num(math.MaxInt64), "+", one), none}, {bin(num(math.MinInt64), "-", one), none}, {bin(num(math.MaxInt64), "*", num(2)), none},
		{bin(one, "/", num(0)), none}, {bin(one, "%", num(0)), none}, {bin(num(math.MinInt64), "/", num(-1)), none}, {bin(num(math.MinInt64), "%", num(-1)), number(0)},
		{bin(bin(num(0), "==", num(0)), "||", bin(bin(one, "/", num(0)), "==", one)), yes},
		{expr.Expr{}, none}, {lit(number(-1)), none}, {ref("", "x"), none}, {bin(lit(no), "&&", lit(number(-1))), none}, {expr.Expr{Kind: expr.Binary, Op: "&&"}, none}, {expr.Expr{Kind: 7}, none},
	} {
		v, ok := Reckon(c.e, binds())
		if v != c.want || ok != (c.want != none) {
			t.Error(i, c.e, v, ok)
		}
		if Holds(c.e, binds()) != (c.want == yes) {
			t.Error("holds", i)
		}
	}
	if v, ok := Reckon(ref("a", "x"), nil); v != none || ok {
		t.Error(v, ok)
	}
}

// TestOddBinds (P8.2): names of binds may be anything.
func TestOddBinds(t *testing.T) {
	l := []Bind{{}, {Var: "a", Fields: []string{"x"}, Events: []event.Event{{}}}, {Var: "a", Fields: []string{"x"}, Events: []event.Event{{V: []value.Value{number(1)}}}}}
	if _, ok := Reckon(ref("a", "x"), l); ok {
		t.Error("a field of the first bind")
	}
	if v, ok := Reckon(count("a"), l); !ok || v != number(1) {
		t.Error(v, ok)
	}
}

// TestDeep (P1): a tree as deep as the limits allow.
func TestDeep(t *testing.T) {
	e := num(0)
	for range 99998 {
		e = bin(e, "+", num(1))
	}
	if v, ok := Reckon(e, nil); !ok || v != number(99998) {
		t.Error(v, ok)
	}
	f := ref("gone", "x")
	for range 99998 {
		f = un("-", f)
	}
	if _, ok := Reckon(f, nil); ok {
		t.Error("there is none")
	}
}
