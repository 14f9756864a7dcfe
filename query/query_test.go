package query

import (
	"math"
	"slices"
	"strings"
	"testing"

	"marshalling/expr"
	"marshalling/value"
)

func number(n int64) expr.Expr { return expr.Expr{V: value.Value{Kind: value.Int, N: n}} }

func ref(v, f string) expr.Expr { return expr.Expr{Kind: expr.Ref, Var: v, Field: f} }

func less(a, b expr.Expr) expr.Expr {
	return expr.Expr{Kind: expr.Binary, Op: "<", Kids: []expr.Expr{a, b}}
}

func part(v string, streams ...string) Part { return Part{Streams: streams, Var: v} }

func not(p Part) Part {
	p.Not = true
	return p
}

func plus(p Part) Part {
	p.Plus = true
	return p
}

func with(p Part, e ...expr.Expr) Part {
	p.Pred = e
	return p
}

func of(parts ...Part) Query { return Query{Name: "q", Parts: parts} }

// full is a query that has all there is.
func full() Query {
	return Query{"q", false, []Part{plus(with(part("a", "A", "B"), less(ref("a", "x"), number(9)))), not(part("n", "N")), part("b", "B")},
		5, "x", []Output{{"u", ref("a", "x")}, {"w", number(0)}}}
}

// turned are queries, each of which differs from full in one thing; all are right.
func turned() []Query {
	l := []Query{}
	for _, turn := range []func(*Query){
		func(q *Query) { q.Name = "r" }, func(q *Query) { q.Within = 6 }, func(q *Query) { q.By = "" }, func(q *Query) { q.By = "y" },
		func(q *Query) { q.Parts = q.Parts[:2] }, func(q *Query) { q.Parts = q.Parts[:1] }, func(q *Query) { q.Out = q.Out[:1] }, func(q *Query) { q.Out = nil },
		func(q *Query) { q.Parts = []Part{q.Parts[0], q.Parts[2]} }, func(q *Query) { q.Parts = []Part{q.Parts[0], q.Parts[2]}; q.Strict = true },
		func(q *Query) { q.Parts[0].Plus = false }, func(q *Query) { q.Parts[1].Not = false }, func(q *Query) { q.Parts[2].Not = true }, func(q *Query) { q.Parts[2].Plus = true },
		func(q *Query) { q.Parts[0].Streams = []string{"A"} }, func(q *Query) { q.Parts[0].Streams = []string{"B", "A"} }, func(q *Query) { q.Parts[0].Var = "c" },
		func(q *Query) { q.Parts[0].Pred = nil }, func(q *Query) { q.Parts[0].Pred = []expr.Expr{less(ref("a", "x"), number(8))} }, func(q *Query) { q.Parts[1].Pred = []expr.Expr{number(1)} },
		func(q *Query) { q.Out[0].Field = "v" }, func(q *Query) { q.Out[0].E = number(0) }, func(q *Query) { q.Out[0], q.Out[1] = q.Out[1], q.Out[0] },
	} {
		q := full()
		turn(&q)
		l = append(l, q)
	}
	return l
}

// TestRight (P9.1): what may be, at its edges.
func TestRight(t *testing.T) {
	eight := []Part{}
	for i := range 8 {
		eight = append(eight, part(strings.Repeat("v", i+1), "A"))
	}
	six := []Output{}
	for i := range 6 {
		six = append(six, Output{strings.Repeat("f", i+1), number(1)})
	}
	rights := append(turned(), full(), of(part("a", "A")), of(eight...), of(part("a", "A", "B", "C", "D")), of(part("a", "a")),
		Query{Name: "q", Parts: eight[:1], Within: 1000000}, Query{Name: "q", Parts: eight[:1], Out: six}, Query{Name: "q", Parts: eight, Strict: true})
	for _, q := range rights {
		if !Right(q) {
			t.Error(Put(q))
		}
	}
	nine := append(slices.Clone(eight), part("z", "A"))
	a, bad := eight[0], expr.Expr{}
	for i, q := range []Query{
		{}, {Name: "q"}, of(nine...), of(not(a)), of(not(a), part("b", "A")), of(part("a")), of(part("a", "A", "B", "C", "D", "E")), of(part("a", "A", "A")), of(part("a", "A", "B", "A")),
		of(part("a", "")), of(part("a", "A", "BY")), of(part("", "A")), of(part("true", "A")), of(a, part("v", "B")), of(a, not(part("v", "B"))), of(part("b", "A"), plus(not(a))),
		of(with(a, bad)), of(with(a, number(1), number(1))), of(with(a, number(-1))), of(a, not(with(part("n", "A"), bad))),
		{Name: "", Parts: eight[:1]}, {Name: "1", Parts: eight[:1]}, {Name: "EMIT", Parts: eight[:1]}, {Name: "q", Parts: eight[:1], Within: -1}, {Name: "q", Parts: eight[:1], Within: 1000001},
		{Name: "q", Parts: eight[:1], Within: math.MinInt64}, {Name: "q", Parts: eight[:1], Within: math.MaxInt64}, {Name: "q", Parts: eight[:1], By: "1"}, {Name: "q", Parts: eight[:1], By: "BY"},
		{Name: "q", Parts: []Part{a, not(part("n", "A"))}, Strict: true}, {Name: "q", Parts: eight[:1], Out: append(slices.Clone(six), Output{"z", number(1)})},
		{Name: "q", Parts: eight[:1], Out: []Output{{"", number(1)}}}, {Name: "q", Parts: eight[:1], Out: []Output{{"x", bad}}}, {Name: "q", Parts: eight[:1], Out: []Output{{"x", number(1)}, {"x", number(2)}}},
	} {
		if Right(q) {
			t.Error(i, Put(q))
		}
		Put(q)
		Inputs(q)
		Waits(q)
	}
}

// TestSame (P9.1, P9.4): field by field; what is put alike is the same.
func TestSame(t *testing.T) {
	l := append(turned(), full())
	for i, a := range l {
		for k, b := range l {
			if Same(a, b) != (i == k) || (Put(a) == Put(b)) != (i == k) {
				t.Error(Put(a), Put(b))
			}
		}
	}
	if !Same(of(part("a", "A")), Query{Name: "q", Parts: []Part{{Streams: []string{"A"}, Var: "a", Pred: []expr.Expr{}}}, Out: []Output{}}) {
		t.Error("nil, or empty")
	}
	strict := of(part("a", "A"))
	strict.Strict = true
	if Same(strict, of(part("a", "A"))) {
		t.Error("strict")
	}
}

// TestPut (P9.2): queries as texts.
func TestPut(t *testing.T) {
	strict := of(part("a", "A"), plus(part("b", "B", "C")))
	strict.Strict = true
	wait := of(part("a", "A"), not(part("b", "B")))
	wait.Within = 5
	for want, q := range map[string]Query{
		"q = A a ; !B b WITHIN 5":                                            wait,
		"q = A a WITHIN 1000000":                                             {Name: "q", Parts: []Part{part("a", "A")}, Within: 1000000},
		"q = STRICT A a ; B | C b+ WITHIN 0":                                 strict,
		"q = A | B a+[a.x < 9] ; !N n ; B b WITHIN 5 BY x EMIT u: a.x, w: 0": full(),
		"q = A a ; !A | B n[a.x < n.x] WITHIN 0":                             of(part("a", "A"), not(with(part("n", "A", "B"), less(ref("a", "x"), ref("n", "x"))))),
	} {
		if got := Put(q); got != want {
			t.Error(got, want)
		}
	}
}

// TestInputs (P9.3): streams, each once, in order; of any query.
func TestInputs(t *testing.T) {
	for i, c := range []struct {
		q     Query
		want  []string
		waits bool
	}{
		{Query{}, nil, false},
		{full(), []string{"A", "B", "N"}, false},
		{of(part("a", "C", "A"), not(part("b", "B", "C"))), []string{"C", "A", "B"}, true},
		{of(part("a", "C"), not(part("b", "B")), part("c", "A")), []string{"C", "B", "A"}, false},
		{of(not(part("a", "", ""))), []string{""}, true},
	} {
		if l := Inputs(c.q); !slices.Equal(l, c.want) || Waits(c.q) != c.waits {
			t.Error(i, l, Waits(c.q))
		}
	}
}
