package expr

import (
	"math/rand"
	"slices"
	"strings"
	"testing"

	"marshalling/value"
)

func number(n int64) Expr { return Expr{V: value.Value{Kind: value.Int, N: n}} }

func truth(n int64) Expr { return Expr{V: value.Value{Kind: value.Bool, N: n}} }

func text(s string) Expr { return Expr{V: value.Value{Kind: value.Text, S: s}} }

func ref(v, f string) Expr { return Expr{Kind: Ref, Var: v, Field: f} }

func count(v string) Expr { return Expr{Kind: Count, Var: v} }

func un(op string, kid Expr) Expr { return Expr{Kind: Unary, Op: op, Kids: []Expr{kid}} }

func bin(a Expr, op string, b Expr) Expr { return Expr{Kind: Binary, Op: op, Kids: []Expr{a, b}} }

// some tells a right expression.
func some(r *rand.Rand, deep int) Expr {
	ops := Ops()
	switch n := r.Intn(9); {
	case deep == 0 || n < 4:
		return []Expr{number(0), number(12), truth(0), truth(1), text(""), text("a - b"), ref("a", "x"), ref("b", "y"), count("a"), count("c")}[r.Intn(10)]
	case n < 6:
		return un([]string{"-", "!"}[r.Intn(2)], some(r, deep-1))
	}
	return bin(some(r, deep-1), ops[r.Intn(len(ops))], some(r, deep-1))
}

// TestKinds: the numbers of the Kinds.
func TestKinds(t *testing.T) {
	if Lit != 0 || Ref != 1 || Count != 2 || Unary != 3 || Binary != 4 {
		t.Error(Lit, Ref, Count, Unary, Binary)
	}
}

// TestOps (P7.1, P3): all of them, in order, as new memory, and their Levels.
func TestOps(t *testing.T) {
	want := strings.Fields("|| && == != < <= > >= + - * / %")
	levels := []int{1, 2, 3, 3, 4, 4, 4, 4, 5, 5, 6, 6, 6}
	l := Ops()
	if !slices.Equal(l, want) {
		t.Error(l)
	}
	l[0] = "?"
	if !slices.Equal(Ops(), want) {
		t.Error("turned", Ops())
	}
	for i, op := range want {
		if Level(op) != levels[i] {
			t.Error(op, Level(op))
		}
	}
	for _, op := range []string{"", "!", "=", "|", "&", "===", " +", "++", "#", "a"} {
		if Level(op) != 0 {
			t.Error(op, Level(op))
		}
	}
}

// TestRight (P7.2): each Kind, and all that keeps it from being right.
func TestRight(t *testing.T) {
	one := number(1)
	for i, e := range []Expr{
		one, number(0), number(1<<63 - 1), truth(0), truth(1), text(""), text("a\"b"), text(strings.Repeat("z", 64)),
		ref("a", "x"), ref("_", "_"), count("a"), un("-", one), un("!", one), un("-", un("-", truth(1))),
		bin(one, "%", text("a")), {Kind: Lit, V: one.V, Kids: []Expr{}},
	} {
		if !Right(e) {
			t.Error(i, e)
		}
	}
	for _, op := range Ops() {
		if !Right(bin(one, op, one)) || Right(un(op, one)) != (op == "-") {
			t.Error(op)
		}
	}
	for i, e := range []Expr{
		{}, {Kind: -1}, {Kind: 5, V: one.V}, number(-1), number(-1 << 63), truth(2), text("'"), text("a'b"), text(strings.Repeat("z", 65)),
		{V: value.Value{Kind: 9}}, {V: value.Value{Kind: value.Int, S: "a"}},
		{V: one.V, Op: "-"}, {V: one.V, Var: "a"}, {V: one.V, Field: "a"}, {V: one.V, Kids: []Expr{one}},
		ref("", "x"), ref("a", ""), ref("1", "x"), ref("a", "BY"), ref("true", "x"),
		{Kind: Ref, Var: "a", Field: "x", Op: "-"}, {Kind: Ref, Var: "a", Field: "x", V: one.V}, {Kind: Ref, Var: "a", Field: "x", Kids: []Expr{one}},
		count(""), count("BY"), count("a b"), {Kind: Count, Var: "a", Field: "x"}, {Kind: Count, Var: "a", Op: "#"}, {Kind: Count, Var: "a", V: one.V}, {Kind: Count, Var: "a", Kids: []Expr{one}},
		un("", one), un("+", one), un("!!", one), un("-", number(-1)), un("-", Expr{}),
		{Kind: Unary, Op: "-"}, {Kind: Unary, Op: "-", Kids: []Expr{one, one}}, {Kind: Unary, Op: "-", Kids: []Expr{one}, Var: "a"},
		{Kind: Unary, Op: "-", Kids: []Expr{one}, Field: "a"}, {Kind: Unary, Op: "-", Kids: []Expr{one}, V: one.V},
		bin(one, "", one), bin(one, "!", one), bin(one, "=", one), bin(number(-1), "+", one), bin(one, "+", number(-1)),
		{Kind: Binary, Op: "+"}, {Kind: Binary, Op: "+", Kids: []Expr{one}}, {Kind: Binary, Op: "+", Kids: []Expr{one, one, one}},
		{Kind: Binary, Op: "+", Kids: []Expr{one, one}, Var: "a"}, {Kind: Binary, Op: "+", Kids: []Expr{one, one}, Field: "a"}, {Kind: Binary, Op: "+", Kids: []Expr{one, one}, V: one.V},
		bin(one, "+", bin(one, "+", un("!", bin(one, "*", ref("a", ""))))),
	} {
		if Right(e) {
			t.Error(i, e)
		}
		Put(e)
		Vars(e)
	}
}

// TestSame (P7.2): field by field.
func TestSame(t *testing.T) {
	l := []Expr{
		{}, {Kind: 1}, {Op: "-"}, {Var: "a"}, {Field: "a"}, number(1), number(2), truth(1), text("1"), ref("a", "x"), ref("x", "a"), count("a"),
		un("-", number(1)), un("!", number(1)), un("-", number(2)), bin(number(1), "+", number(2)), bin(number(2), "+", number(1)),
		bin(number(1), "-", number(2)), {Kind: Binary, Op: "+", Kids: []Expr{number(1)}}, {Kind: Binary, Op: "+"},
	}
	for i, a := range l {
		for k, b := range l {
			if Same(a, b) != (i == k) {
				t.Error(a, b)
			}
		}
	}
	if !Same(Expr{}, Expr{Kids: []Expr{}}) {
		t.Error("nil, or empty")
	}
}

// TestPut (P7.3): texts with just the brackets that are needed.
func TestPut(t *testing.T) {
	a, b, c := ref("a", "x"), count("b"), number(1)
	for want, e := range map[string]Expr{
		"7": number(7), "true": truth(1), "false": truth(0), "'a b'": text("a b"), "a.x": a, "#b": b,
		"-1": un("-", c), "--1": un("-", un("-", c)), "!-a.x": un("!", un("-", a)), "!(a.x == 1)": un("!", bin(a, "==", c)),
		"a.x - (#b - 1)": bin(a, "-", bin(b, "-", c)), "a.x - #b - 1": bin(bin(a, "-", b), "-", c),
		"a.x + #b * 1": bin(a, "+", bin(b, "*", c)), "(a.x + #b) * 1": bin(bin(a, "+", b), "*", c), "a.x * (#b + 1)": bin(a, "*", bin(b, "+", c)),
		"a.x * #b + 1": bin(bin(a, "*", b), "+", c), "a.x == (#b != 1)": bin(a, "==", bin(b, "!=", c)), "a.x == #b < 1": bin(a, "==", bin(b, "<", c)),
		"(a.x == #b) < 1": bin(bin(a, "==", b), "<", c), "-a.x + -#b": bin(un("-", a), "+", un("-", b)), "a.x || #b && 1": bin(a, "||", bin(b, "&&", c)),
		"(a.x || #b) && 1": bin(bin(a, "||", b), "&&", c), "a.x <= (#b >= 1)": bin(a, "<=", bin(b, ">=", c)),
	} {
		if got := Put(e); got != want {
			t.Error(got, want)
		}
	}
	for _, outer := range Ops() {
		for _, inner := range Ops() {
			first, second := a.Var+".x "+inner+" #b", "#b "+inner+" 1"
			if Level(inner) < Level(outer) {
				first = "(" + first + ")"
			}
			if Level(inner) <= Level(outer) {
				second = "(" + second + ")"
			}
			if got := Put(bin(bin(a, inner, b), outer, c)); got != first+" "+outer+" 1" {
				t.Error(got)
			}
			if got := Put(bin(a, outer, bin(b, inner, c))); got != "a.x "+outer+" "+second {
				t.Error(got)
			}
		}
	}
}

// TestAlike (P7.4): two that are put alike are the same.
func TestAlike(t *testing.T) {
	r := rand.New(rand.NewSource(1))
	met := map[string]Expr{}
	for range 50000 {
		e := some(r, 3)
		if !Right(e) {
			t.Fatal(e)
		}
		s := Put(e)
		if x, ok := met[s]; ok && !Same(x, e) {
			t.Fatal(s)
		}
		met[s] = e
	}
}

// TestVars (P7.2, P7.3): names, each once, sorted; sizes.
func TestVars(t *testing.T) {
	e := bin(un("-", ref("b", "x")), "+", bin(count("a"), "*", bin(ref("b", "y"), "+", bin(ref("Z", "x"), "+", number(1)))))
	if l := Vars(e); !slices.Equal(l, []string{"Z", "a", "b"}) {
		t.Error(l)
	}
	if Size(e) != 10 || Size(Expr{}) != 1 {
		t.Error(Size(e))
	}
	if len(Vars(number(1))) != 0 || len(Vars(Expr{Kind: Lit, Var: "a"})) != 0 {
		t.Error("no Vars")
	}
	odd := Expr{Kind: 9, Var: "no", Kids: []Expr{{Kind: Ref}, {Kind: Count, Var: "c", Kids: []Expr{{Kind: Ref, Var: "d"}}}}}
	if l := Vars(odd); !slices.Equal(l, []string{"", "c", "d"}) || Size(odd) != 4 {
		t.Error(l, Size(odd))
	}
}

// TestDeep (P1): trees as deep as the limits allow.
func TestDeep(t *testing.T) {
	e, f := number(1), number(1)
	for range 99999 {
		e = un("-", e)
		f = bin(f, "+", number(1))
	}
	if !Right(e) || len(Put(e)) != 100000 || Size(e) != 100000 || !Same(e, e) || len(Vars(e)) != 0 {
		t.Error("unaries")
	}
	if !Right(f) || len(Put(f)) != 1+4*99999 || Size(f) != 199999 || !Same(f, f) {
		t.Error("binaries")
	}
}
