package check

import (
	"math/rand"
	"slices"
	"strings"
	"testing"

	"marshalling/api"
	"marshalling/event"
	"marshalling/expr"
	"marshalling/parse"
	"marshalling/query"
	"marshalling/reckon"
	"marshalling/stream"
	"marshalling/value"
)

// got tells the stream of that text, right or not.
func got(t *testing.T, text string) stream.Stream {
	t.Helper()
	s, ok := stream.Get(text)
	if !ok {
		t.Fatal(text)
	}
	return s
}

func streams(t *testing.T, texts string) []stream.Stream {
	t.Helper()
	l := []stream.Stream{}
	for _, s := range strings.Fields(texts) {
		l = append(l, got(t, s))
	}
	return l
}

func tree(t *testing.T, s string) expr.Expr {
	t.Helper()
	x, at, e := parse.Expr(s)
	if e != api.OK {
		t.Fatal(s, at, e)
	}
	return x
}

func parsed(t *testing.T, s string) query.Query {
	t.Helper()
	q, at, e := parse.Parse(s)
	if e != api.OK {
		t.Fatal(s, at, e)
	}
	return q
}

// TestKind (P11.1): the Kind of each expression, and each error in its order.
func TestKind(t *testing.T) {
	slots := []Slot{
		{"a", []stream.Field{{Name: "x", Kind: value.Int}, {Name: "t", Kind: value.Text}, {Name: "b", Kind: value.Bool}, {Name: "x", Kind: value.Text}}},
		{"a", []stream.Field{{Name: "z", Kind: value.Int}}},
		{"c", nil},
	}
	for s, want := range map[string]int{
		"1": value.Int, "'a'": value.Text, "true": value.Bool, "a.x": value.Int, "a.t": value.Text, "a.b": value.Bool, "#a": value.Int, "#c": value.Int,
		"-1": value.Int, "-a.x": value.Int, "!a.b": value.Bool, "a.x + 1": value.Int, "a.t + 'b'": value.Text, "1 - 1": value.Int, "1 * 1": value.Int, "1 / 0": value.Int, "1 % 1": value.Int,
		"a.x < #c": value.Bool, "a.t >= ''": value.Bool, "true < false": value.Bool, "a.b == true": value.Bool, "'a' != a.t": value.Bool, "a.b && true": value.Bool, "false || a.b": value.Bool,
		"(1 < 2) == (a.t <= 'b')": value.Bool, "1 > 2 || 1 == 1 && !a.b": value.Bool,
	} {
		if kind, e := Kind(tree(t, s), slots); kind != want || e != api.OK {
			t.Error(s, kind, e)
		}
	}
	for s, want := range map[string]api.Errno{
		"a.y": api.ErrName, "b.x": api.ErrName, "a.z": api.ErrName, "c.x": api.ErrName, "#b": api.ErrName,
		"-true": api.ErrType, "-'a'": api.ErrType, "!1": api.ErrType, "!a.t": api.ErrType, "-a.y": api.ErrName, "!#b": api.ErrName, "--a.b": api.ErrType,
		"1 + true": api.ErrType, "true + true": api.ErrType, "'a' + 1": api.ErrType, "'a' - 'b'": api.ErrType, "'a' * 'b'": api.ErrType, "'a' / 'b'": api.ErrType, "true % true": api.ErrType, "1 - 'a'": api.ErrType,
		"1 && true": api.ErrType, "true && 1": api.ErrType, "1 || 1": api.ErrType, "'a' || true": api.ErrType, "'' && ''": api.ErrType,
		"1 < true": api.ErrType, "'a' == 1": api.ErrType, "true != 0": api.ErrType, "1 >= 'a'": api.ErrType,
		"!1 == a.y": api.ErrType, "a.y == !1": api.ErrName, "(1 + true) + a.y": api.ErrType, "1 + true == #b": api.ErrType, "true && a.y": api.ErrName, "1 && a.y": api.ErrName, "false && 1 == 'a'": api.ErrType,
	} {
		if kind, e := Kind(tree(t, s), slots); kind != 0 || e != want {
			t.Error(s, kind, e)
		}
	}
	for i, e := range []expr.Expr{{}, {Kind: 9}, {Kind: expr.Unary, Op: "-"}, {Kind: expr.Ref, Var: "a"}, {V: value.Value{Kind: value.Int, N: -1}}} {
		if kind, e := Kind(e, slots); kind != 0 || e != api.ErrArg {
			t.Error(i, kind, e)
		}
	}
}

// TestOddSlots (P11.1, P1): slots may be anything.
func TestOddSlots(t *testing.T) {
	slots := []Slot{{"", []stream.Field{{Name: "", Kind: 7}}}, {"a", []stream.Field{{Name: "x", Kind: 9}, {Name: "y", Kind: 0}, {Name: "", Kind: 1}, {Name: "n", Kind: -4}}}}
	for s, want := range map[string]int{"a.x": 9, "a.y": 0, "a.n": -4, "a.x == a.x": value.Bool, "a.y < a.y": value.Bool} {
		if kind, e := Kind(tree(t, s), slots); kind != want || e != api.OK {
			t.Error(s, kind, e)
		}
	}
	for _, s := range []string{"-a.y", "a.x + a.x", "a.y && a.y", "a.x == a.y"} {
		if kind, e := Kind(tree(t, s), slots); kind != 0 || e != api.ErrType {
			t.Error(s, kind, e)
		}
	}
}

// TestCommon (P11.2): fields of the first that all others have, with name and kind.
func TestCommon(t *testing.T) {
	for l, want := range map[string]string{
		"": "a()", "a(x:int)": "a(x:int)", "a()": "a()", "a(x:int) b(x:int,y:int)": "a(x:int)", "a(x:int,y:int) b(y:int,x:int)": "a(x:int,y:int)",
		"a(x:int) b(x:text)": "a()", "a(x:int,y:text,z:bool) b(z:bool,x:int) c(q:int,z:bool)": "a(z:bool)", "a(x:int) b(y:int)": "a()", "a() b(x:int)": "a()",
		"a(x:int) b(x:int) c()": "a()", "a(x:int) b() c(x:int)": "a()",
	} {
		if common := Common(streams(t, l)); !slices.Equal(common, got(t, want).Fields) {
			t.Error(l, common)
		}
	}
	x, y := stream.Field{Name: "x", Kind: 1}, stream.Field{Name: "x", Kind: 2}
	odd := []stream.Stream{{Fields: []stream.Field{x, y, x}}, {Fields: []stream.Field{y, x, x}}}
	if l := Common(odd); !slices.Equal(l, []stream.Field{x, y, x}) {
		t.Error(l)
	}
	if l := Common(append(odd, stream.Stream{Fields: []stream.Field{y, y}})); !slices.Equal(l, []stream.Field{y}) {
		t.Error(l)
	}
	alone := streams(t, "a(x:int)")
	Common(alone)[0].Name = "turned"
	if alone[0].Fields[0].Name != "x" {
		t.Error("turned")
	}
}

// TestOf (P11.2): by the names of a part, in its order.
func TestOf(t *testing.T) {
	l := append(streams(t, "a(x:int,y:int) b(y:int,x:int) c(y:int)"), stream.Stream{Name: "a"})
	for names, want := range map[string]string{"a": "a(x:int,y:int)", "b": "a(y:int,x:int)", "a b": "a(x:int,y:int)", "b a": "a(y:int,x:int)", "b c a": "a(y:int)", "a d": "a()", "d": "a()", "d a": "a()", "": "a()"} {
		if f := Of(l, query.Part{Streams: strings.Fields(names)}); !slices.Equal(f, got(t, want).Fields) {
			t.Error(names, f)
		}
	}
}

// TestView (P11.2, P3): values at the places of fields, by name alone.
func TestView(t *testing.T) {
	s := got(t, "a(x:int,y:text,z:bool)")
	s.Fields = append(s.Fields, stream.Field{Name: "x", Kind: value.Int})
	v := []value.Value{{Kind: value.Int, N: 7}, {Kind: value.Text, S: "t"}}
	field := func(names string) []stream.Field {
		l := []stream.Field{}
		for _, name := range strings.Fields(names) {
			l = append(l, stream.Field{Name: name, Kind: 9})
		}
		return l
	}
	for names, want := range map[string][]value.Value{"": nil, "x": {v[0]}, "y x": {v[1], v[0]}, "z": {{}}, "q y y": {{}, v[1], v[1]}} {
		if e := View(s, field(names), event.Event{Time: -5, V: v}); e.Time != -5 || !slices.Equal(e.V, want) {
			t.Error(names, e)
		}
	}
	e := event.Event{V: slices.Clone(v)}
	View(s, s.Fields, e).V[0].N = 8
	if e.V[0].N != 7 {
		t.Error("turned")
	}
}

// TestCheck (P11.3): the derived stream.
func TestCheck(t *testing.T) {
	l := streams(t, "A(x:int,k:text) B(k:text,y:bool,x:int) C(k:int) D()")
	for s, want := range map[string]string{
		"q = A a WITHIN 1":            "q()",
		"q = D d WITHIN 1 EMIT n: #d": "q(n:int)",
		"q = A a[a.x > 0] ; !B b[b.y && a.x == b.x] ; B c+[c.x > a.x && #c < 3] WITHIN 1 BY k EMIT k: a.k, n: #c, y: c.y || false": "q(k:text,n:int,y:bool)",
		"q = A | B a ; B | A b[a.k == b.k] WITHIN 1 BY x EMIT x: b.x":                                                              "q(x:int)",
		"q = A a ; C c WITHIN 1":                               "q()",
		"q = STRICT A a ; A b WITHIN 1 BY x EMIT s: a.k + b.k": "q(s:text)",
	} {
		if d, e := Check(l, parsed(t, s)); e != api.OK || !stream.Same(d, got(t, want)) || stream.Right(d) != api.OK {
			t.Error(s, stream.Put(d), e)
		}
	}
}

// TestCheckWrong (P11.3, P2): each error, and which comes first.
func TestCheckWrong(t *testing.T) {
	l := streams(t, "A(x:int,k:text) B(k:text,y:bool,x:int) C(k:int) D()")
	for s, want := range map[string]api.Errno{
		"A = B b WITHIN 1": api.ErrTwice, "A = A a WITHIN 1": api.ErrTwice, "A = Z z[1] WITHIN 1": api.ErrTwice,
		"q = Z z WITHIN 1": api.ErrName, "q = q z WITHIN 1": api.ErrName, "q = A | Z a WITHIN 1": api.ErrName, "q = A a ; !Z z WITHIN 1": api.ErrName, "q = A a[1] ; Z z WITHIN 1": api.ErrType, "q = Z z[1] WITHIN 1": api.ErrName,
		"q = A a WITHIN 1 BY y": api.ErrName, "q = A a ; C c WITHIN 1 BY x": api.ErrName, "q = A a ; C c WITHIN 1 BY k": api.ErrType, "q = A a ; !C c WITHIN 1 BY k": api.ErrType, "q = A | C a WITHIN 1 BY k": api.ErrName, "q = A a ; A | C c WITHIN 1 BY k": api.ErrName,
		"q = A a ; !D d WITHIN 1 BY k": api.ErrName, "q = A a[1] WITHIN 1 BY y": api.ErrName, "q = A a ; C c[1 + true] WITHIN 1 BY k": api.ErrType, "q = A a ; C c[b.x] WITHIN 1 BY k": api.ErrType,
		"q = A a[1] WITHIN 1": api.ErrType, "q = A a['a'] WITHIN 1": api.ErrType, "q = A a[a.z] WITHIN 1": api.ErrName, "q = A a[a.x] WITHIN 1": api.ErrType, "q = A a[b.x > 1] ; B b WITHIN 1": api.ErrName, "q = A a[#b > 1] ; B b WITHIN 1": api.ErrName,
		"q = A a ; !B n ; B b[n.x == 1] WITHIN 1": api.ErrName, "q = A a ; !B n ; !B m[#n == 1] WITHIN 1": api.ErrName, "q = A | B a[a.y] WITHIN 1": api.ErrName, "q = A a[a.k == 1] WITHIN 1": api.ErrType, "q = A a ; !B n[n.x] WITHIN 1": api.ErrType,
		"q = A a WITHIN 1 EMIT x: b.x": api.ErrName, "q = A a ; !B b WITHIN 1 EMIT x: b.x": api.ErrName, "q = A a ; !B b WITHIN 1 EMIT x: #b": api.ErrName, "q = A a WITHIN 1 EMIT x: 1 + true": api.ErrType, "q = A a WITHIN 1 EMIT x: a.x, y: a.y": api.ErrName,
		"q = A a WITHIN 1 EMIT x: !1, y: a.y": api.ErrType, "q = A a ; Z z WITHIN 1 EMIT x: !1": api.ErrName, "q = A a[1 == 1] ; B b[b.z] WITHIN 1 EMIT x: !1": api.ErrName,
	} {
		if d, e := Check(l, parsed(t, s)); e != want || !stream.Same(d, stream.Stream{}) {
			t.Error(s, stream.Put(d), e)
		}
	}
	q := parsed(t, "q = A a WITHIN 1")
	for i, c := range []struct {
		l    []stream.Stream
		q    query.Query
		want api.Errno
	}{
		{make([]stream.Stream, 9), query.Query{}, api.ErrLimit}, {[]stream.Stream{{}}, query.Query{}, api.ErrName}, {append(slices.Clone(l), l[0]), query.Query{}, api.ErrTwice},
		{[]stream.Stream{{Name: "A", Fields: []stream.Field{{Name: "x"}}}}, q, api.ErrType}, {l, query.Query{}, api.ErrArg}, {l, query.Query{Name: "A"}, api.ErrArg}, {nil, q, api.ErrName},
	} {
		if d, e := Check(c.l, c.q); e != c.want || !stream.Same(d, stream.Stream{}) {
			t.Error(i, e)
		}
	}
}

// TestDerived (P11.4): the derived stream may be, and what stands behind in an array is not turned (P3).
func TestDerived(t *testing.T) {
	l := streams(t, "A(x:int,k:text) B(x:int)")
	d, e := Check(l[:1], parsed(t, "q = A a WITHIN 1 EMIT a: 1, b: 'b', c: true, d: #a, e: a.x, f: a.k"))
	if e != api.OK || stream.Right(d) != api.OK || stream.Put(d) != "q(a:int,b:text,c:bool,d:int,e:int,f:text)" || l[1].Name != "B" {
		t.Error(stream.Put(d), e)
	}
}

// some tells a tree of those Ops, right in form, of whichever Kinds.
func some(r *rand.Rand, ops []string, deep int) expr.Expr {
	if deep == 0 || r.Intn(4) == 0 {
		return []expr.Expr{
			{V: value.Value{Kind: value.Int, N: 3}}, {V: value.Value{Kind: value.Bool}}, {V: value.Value{Kind: value.Text, S: "u"}}, {Kind: expr.Count, Var: "a"},
			{Kind: expr.Ref, Var: "a", Field: "x"}, {Kind: expr.Ref, Var: "a", Field: "t"}, {Kind: expr.Ref, Var: "a", Field: "b"},
		}[r.Intn(7)]
	}
	if r.Intn(5) == 0 {
		return expr.Expr{Kind: expr.Unary, Op: "!", Kids: []expr.Expr{some(r, ops, deep-1)}}
	}
	return expr.Expr{Kind: expr.Binary, Op: ops[r.Intn(len(ops))], Kids: []expr.Expr{some(r, ops, deep-1), some(r, ops, deep-1)}}
}

// TestReckoned (P11.4): what has a Kind is reckoned as one of that Kind; but for what does not fit there is always one.
func TestReckoned(t *testing.T) {
	r := rand.New(rand.NewSource(1))
	a := got(t, "a(x:int,t:text,b:bool)")
	binds := []reckon.Bind{{Var: "a", Fields: []string{"x", "t", "b"}, Events: []event.Event{{V: []value.Value{{Kind: value.Int, N: 5}, {Kind: value.Text, S: "t"}, {Kind: value.Bool, N: 1}}}}}}
	met := map[int]int{}
	for i := range 40000 {
		ops, fits := expr.Ops(), i%2 == 0
		if fits {
			ops = ops[:8]
		}
		e := some(r, ops, 3)
		kind, err := Kind(e, []Slot{{"a", a.Fields}})
		if err != api.OK {
			continue
		}
		v, ok := reckon.Reckon(e, binds)
		if ok && v.Kind != kind || fits && !ok {
			t.Fatal(expr.Put(e), kind, v, ok)
		}
		met[kind]++
	}
	if met[value.Int] < 100 || met[value.Bool] < 100 || met[value.Text] < 100 {
		t.Error("too few", met)
	}
}
