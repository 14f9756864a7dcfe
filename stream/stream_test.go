package stream

import (
	"math/rand"
	"strings"
	"testing"

	"marshalling/api"
	"marshalling/value"
)

func long(n int) string { return strings.Repeat("n", n) }

// manyFields are n fields of names of their own.
func manyFields(n int) []Field {
	l := []Field{}
	for i := range n {
		l = append(l, Field{long(i + 1), value.Int + i%3})
	}
	return l
}

// TestIsName (P3.1): what is a name, and what is none.
func TestIsName(t *testing.T) {
	for _, s := range []string{"a", "Z", "_", "a1", "_9", "aZ_09", "strict", "Within", "by", "Emit", "True", "FALSE", "STRICTS", "trueish", long(20)} {
		if !IsName(s) {
			t.Error(s)
		}
	}
	for _, s := range []string{"", "1", "1a", "a b", " a", "a ", "a.b", "a-", "é", "a\x00", "a\xff", "@", "[", "`", "{", "a/", "a:", "STRICT", "WITHIN", "BY", "EMIT", "true", "false", long(21), long(3000)} {
		if IsName(s) {
			t.Error(s)
		}
	}
}

// TestBytes (P3.1): which bytes may stand in a name.
func TestBytes(t *testing.T) {
	for b := range 256 {
		s := string([]byte{byte(b)})
		letter := strings.Contains("abcdefghijklmnopqrstuvwxyzABCDEFGHIJKLMNOPQRSTUVWXYZ_", s)
		if IsName(s) != letter || IsName("x"+s) != (letter || strings.Contains("0123456789", s)) {
			t.Errorf("%q", s)
		}
	}
}

// TestRight (P3.2): each error, and which comes first.
func TestRight(t *testing.T) {
	x := Field{"x", value.Int}
	for i, c := range []struct {
		s    Stream
		want api.Errno
	}{
		{Stream{Name: "a"}, api.OK},
		{Stream{"a", []Field{x, {"y", value.Bool}, {"a", value.Text}}}, api.OK},
		{Stream{"a", manyFields(6)}, api.OK},
		{Stream{"a", manyFields(7)}, api.ErrLimit},
		{Stream{"", manyFields(7)}, api.ErrName},
		{Stream{"true", nil}, api.ErrName},
		{Stream{"a", append(manyFields(6), Field{})}, api.ErrLimit},
		{Stream{"a", []Field{{"", 0}}}, api.ErrName},
		{Stream{"a", []Field{x, {"BY", value.Int}}}, api.ErrName},
		{Stream{"a", []Field{{"x", 0}}}, api.ErrType},
		{Stream{"a", []Field{{"x", 4}}}, api.ErrType},
		{Stream{"a", []Field{{"x", -1}}}, api.ErrType},
		{Stream{"a", []Field{x, {"x", 9}}}, api.ErrType},
		{Stream{"a", []Field{x, x}}, api.ErrTwice},
		{Stream{"a", []Field{x, {"y", value.Int}, {"x", value.Text}}}, api.ErrTwice},
		{Stream{"a", []Field{{"x", value.Text}, {"x", value.Bool}}}, api.ErrTwice},
		{Stream{"a", []Field{x, x, {"", 0}}}, api.ErrTwice},
		{Stream{"a", []Field{{"y", 0}, x, x}}, api.ErrType},
	} {
		if got := Right(c.s); got != c.want {
			t.Error(i, got, c.want)
		}
	}
}

// TestAll (P3.2): lists of streams.
func TestAll(t *testing.T) {
	many := []Stream{}
	for i := range 9 {
		many = append(many, Stream{Name: long(i + 1)})
	}
	a, bad := Stream{Name: "a"}, Stream{Name: "1"}
	for i, c := range []struct {
		l    []Stream
		want api.Errno
	}{
		{nil, api.OK}, {many[:8], api.OK}, {many, api.ErrLimit},
		{append(append([]Stream{}, many[:8]...), bad), api.ErrLimit},
		{[]Stream{a, {Name: "b"}}, api.OK},
		{[]Stream{a, bad}, api.ErrName},
		{[]Stream{a, {"a", []Field{{"x", 7}}}}, api.ErrType},
		{[]Stream{a, {"a", manyFields(1)}}, api.ErrTwice},
		{[]Stream{a, a, bad}, api.ErrTwice},
		{[]Stream{bad, a, a}, api.ErrName},
		{[]Stream{{"b", manyFields(7)}, bad}, api.ErrLimit},
	} {
		if got := All(c.l); got != c.want {
			t.Error(i, got, c.want)
		}
	}
}

// TestFind (P3.2): the first of a name, or none.
func TestFind(t *testing.T) {
	l := []Stream{{Name: "a"}, {Name: "b"}, {"a", manyFields(2)}, {Name: ""}}
	for name, want := range map[string]int{"a": 0, "b": 1, "": 3, "c": -1} {
		if got := Find(l, name); got != want {
			t.Error(name, got)
		}
	}
	s := Stream{"s", []Field{{"x", 1}, {"y", 2}, {"x", 3}, {"", 0}}}
	for name, want := range map[string]int{"x": 0, "y": 1, "": 3, "s": -1} {
		if got := At(s, name); got != want {
			t.Error(name, got)
		}
	}
	if Find(nil, "") != -1 || At(Stream{}, "") != -1 {
		t.Error("of nothing")
	}
}

// TestSame (P3.2): names and fields, one by one.
func TestSame(t *testing.T) {
	l := []Stream{
		{}, {Name: "a"}, {"a", manyFields(1)}, {"a", manyFields(2)}, {"b", manyFields(2)},
		{"a", []Field{{"n", value.Bool}}}, {"a", []Field{{"m", value.Int}}}, {"a", []Field{{"nn", 2}, {"n", 1}}},
	}
	for i, a := range l {
		for k, b := range l {
			if Same(a, b) != (i == k) {
				t.Error(i, k)
			}
		}
	}
	if !Same(Stream{Name: "a"}, Stream{"a", []Field{}}) {
		t.Error("nil, or empty")
	}
}

// TestPut (P3.3, P3.4): streams as texts, and back.
func TestPut(t *testing.T) {
	for want, s := range map[string]Stream{
		"a()":                     {Name: "a"},
		"a(x:int)":                {"a", []Field{{"x", value.Int}}},
		"a(x:int,y:bool,z9:text)": {"a", []Field{{"x", value.Int}, {"y", value.Bool}, {"z9", value.Text}}},
		long(20) + "(n:int,nn:bool,nnn:text,nnnn:int,nnnnn:bool,nnnnnn:text)": {long(20), manyFields(6)},
	} {
		if got := Put(s); got != want {
			t.Error(got, want)
		}
		if got, ok := Get(want); !ok || !Same(got, s) {
			t.Error(want, got, ok)
		}
	}
	if got := Put(Stream{"", []Field{{"", 0}, {"x", 9}, {"x", 3}}}); got != "(:?,x:?,x:text)" {
		t.Error(got)
	}
}

// TestNone (P3.3, P2): texts that no right stream is put as.
func TestNone(t *testing.T) {
	for _, s := range []string{
		"", "a", "a(", "a)", "()", "(x:int)", "a()b", "a() ", " a()", "a ()", "a(())", "a()()", "a(x:int))", "a((x:int)",
		"a(x)", "a(x:)", "a(:int)", "a(x:int,)", "a(,x:int)", "a(,)", "a(x:int,,y:int)", "a(x:int y:int)", "a(x:?)", "a(x:Int)", "a(x:int:int)",
		"a(x: int)", "a(x:int, y:int)", "a(x:int,x:int)", "a(x:int,x:text)", "true()", "a(BY:int)", "1()", "a(1:int)", long(21) + "()",
		"a(n:int,nn:int,nnn:int,nnnn:int,nnnnn:int,nnnnnn:int,nnnnnnn:int)", "(:?,x:?)", "a(x:int\x00)",
	} {
		if got, ok := Get(s); ok || !Same(got, Stream{}) {
			t.Error(s, got, ok)
		}
	}
}

// TestAnyText (P3.3): whatever is got is right, and is put as it was.
func TestAnyText(t *testing.T) {
	r := rand.New(rand.NewSource(1))
	pieces := []string{"a", "b", "1", "(", ")", ",", ":", "int", "bool", "text", "?", " ", "x:int", "y:bool", "BY"}
	for range 100000 {
		s := "a("
		for range r.Intn(6) {
			s += pieces[r.Intn(len(pieces))]
		}
		s += ")"
		if got, ok := Get(s); ok && (Right(got) != api.OK || Put(got) != s) {
			t.Error(s, got)
		}
	}
}
