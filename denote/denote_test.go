package denote_test

import (
	"cmp"
	"slices"
	"strconv"
	"strings"
	"testing"

	"marshalling/api"
	"marshalling/denote"
	"marshalling/event"
	"marshalling/parse"
	"marshalling/query"
	"marshalling/stream"
	"marshalling/trial"
	"marshalling/value"
)

func parsed(t *testing.T, s string) query.Query {
	t.Helper()
	q, at, e := parse.Parse(s)
	if e != api.OK {
		t.Fatal(s, at, e)
	}
	return q
}

// streams are A, B and C of an x; D has nothing.
func streams() []stream.Stream {
	x := []stream.Field{{Name: "x", Kind: value.Int}}
	return []stream.Stream{{Name: "A", Fields: x}, {Name: "B", Fields: x}, {Name: "C", Fields: x}, {Name: "D"}}
}

// entries tells those of a text: A3 is of A at 3, A3=7 has an x of 7, else of 0.
func entries(text string) []denote.Entry {
	l := []denote.Entry{}
	for _, s := range strings.Fields(text) {
		at, x, _ := strings.Cut(s[1:], "=")
		now, _ := strconv.ParseInt(at, 10, 64)
		n, _ := strconv.ParseInt(x, 10, 64)
		e := event.Event{Time: now, V: []value.Value{{Kind: value.Int, N: n}}}
		if s[0] == 'D' {
			e.V = nil
		}
		l = append(l, denote.Entry{Stream: s[:1], E: e})
	}
	return l
}

// shown tells matches as a text: 0,1;2@5 and what is derived.
func shown(l []denote.Match) string {
	texts := []string{}
	for _, m := range l {
		parts := []string{}
		for _, p := range m.Parts {
			s := []string{}
			for _, i := range p {
				s = append(s, strconv.Itoa(i))
			}
			parts = append(parts, strings.Join(s, ","))
		}
		text := strings.Join(parts, ";") + "@" + strconv.FormatInt(m.At, 10)
		for _, v := range m.E.V {
			text += ":" + value.Show(v)
		}
		texts = append(texts, text)
	}
	return strings.Join(texts, " ")
}

// TestExamples (P13.1, P13.2): each thing that is asked of a match, alone.
func TestExamples(t *testing.T) {
	for _, c := range []struct{ q, in, want string }{
		{"A a ; B b WITHIN 5", "A1 B3 B9", "0;1@3"},
		{"A a WITHIN 0", "", ""}, {"A a WITHIN 0", "A1 B1 A1", "0@1 2@1"},
		{"A a ; B b WITHIN 5", "B1 A1 B6 B7", "1;2@6"}, {"A a ; B b WITHIN 0", "A1 B1 B2", "0;1@1"}, {"A a ; B b WITHIN 5", "A5 B4 B5", "0;2@5"},
		{"A a ; B b WITHIN 5", "A1 A2 B3", "0;2@3 1;2@3"}, {"A a ; A b WITHIN 5", "A1 A2 A3", "0;1@2 0;2@3 1;2@3"}, {"A | B a ; B b WITHIN 5", "A1 B2 B3", "0;1@2 0;2@3 1;2@3"},
		{"A a+ WITHIN 5", "A1 A2 A3", "0@1 0,1@2 1@2 0,1,2@3 0,2@3 1,2@3 2@3"}, {"A a+ ; B b WITHIN 5", "A1 A2 B3", "0;2@3 0,1;2@3 1;2@3"}, {"A a ; B b+ WITHIN 5", "A1 B2 B3", "0;1@2 0;1,2@3 0;2@3"},
		{"STRICT A a ; B b WITHIN 5", "A1 A2 B3 B4", "1;2@3"}, {"STRICT A a ; B b WITHIN 5", "A1 C2 B3", "0;2@3"}, {"STRICT A a+ WITHIN 5", "A1 A2 A3", "0@1 0,1@2 1@2 0,1,2@3 1,2@3 2@3"}, {"STRICT A a ; B b ; C c WITHIN 5", "A1 C1 B3", ""},
		{"STRICT A a ; B b WITHIN 5 BY x", "A1=1 A2=2 B3=1 B4=2", "0;2@3 1;3@4"}, {"STRICT A a ; B b WITHIN 5 BY x", "A1=1 A2=1 B3=1", "1;2@3"},
		{"A a ; B b WITHIN 5 BY x", "A1=1 B2=2 B3=1", "0;2@3"}, {"A a ; B b ; C c WITHIN 9 BY x", "A1=1 B2=1 C3=2 C4=1", "0;1;3@4"},
		{"A a ; !C c ; B b WITHIN 5", "A1 B2 C3 B4", "0;;1@2"}, {"A a ; !C c ; B b WITHIN 5", "C1 A1 B2 C2", "1;;2@2"}, {"A a ; !C c ; B b WITHIN 9", "A1 C2 A3 B4", "2;;3@4"}, {"A a ; !A n ; B b WITHIN 9", "A1 A2 B3", "1;;2@3"},
		{"A a ; !C c[c.x == a.x] ; B b WITHIN 5", "A1=1 C2=2 B3 C3=1 B4", "0;;2@3"}, {"A a ; !C c ; B b WITHIN 5 BY x", "A1=1 C2=2 B3=1 C3=1 B4=1", "0;;2@3"}, {"A a ; !C c[c.x / 0 == 1] ; B b WITHIN 5", "A1 C2 B3", "0;;2@3"},
		{"A a+ ; !C c ; B b WITHIN 9", "A1 C2 A3 B4", "0,2;;3@4 2;;3@4"}, {"A a+ ; !C c[#a == 1] ; B b WITHIN 9", "A1 A2 C3 B4", "0,1;;3@4"}, {"A a+ ; !C c ; B b WITHIN 9", "A1 A2 C2 B4", ""}, {"A a ; !C c ; B b+ WITHIN 9", "A1 B2 C3 B4", "0;;1@2 0;;1,3@4"},
		{"A a ; !C c ; !D d ; B b WITHIN 9", "A1 B2 D3 B4", "0;;;1@2"}, {"A a ; !C c[#c == 1] ; !D d[#d == 1] ; B b WITHIN 9", "A1 B2 C3 B4", "0;;;1@2"},
		{"A a ; !B b WITHIN 5", "A1", "0;@6"}, {"A a ; !B b WITHIN 5", "A1 B6", ""}, {"A a ; !B b WITHIN 5", "A1 B7", "0;@6"}, {"A a ; !B b WITHIN 5", "B0 A1 A2 B7", "1;@6"}, {"A a ; !B b WITHIN 5", "A3 B2", ""}, {"A a ; !B b WITHIN 5 BY x", "A1=1 B2=2", "0;@6"},
		{"A a ; !B b[b.x > a.x] WITHIN 5", "A1=1 B2=1", "0;@6"}, {"A a ; B b ; !C c WITHIN 5", "A1 B2 C2 B3", "0;3;@6"}, {"A a ; A b ; !C c WITHIN 5", "A1 A2 A4 C8", "0;1;@6 0;2;@6 1;2;@7"}, {"A a ; !B b ; !C c WITHIN 5", "A1 A2 B7", "0;;@6"}, {"A a+ ; !B b[#a == 1] WITHIN 5", "A1 A2 B3", "0,1;@6"},
		{"A a[a.x > 1] WITHIN 5", "A1 A2=2", "1@2"}, {"A a ; B b[b.x == a.x + 1] WITHIN 5", "A1=1 A1=2 B2=3 B3=2", "1;2@2 0;3@3"}, {"A a+[#a < 3] WITHIN 5", "A1 A1 A1", "0@1 0,1@1 1@1 0,2@1 1,2@1 2@1"}, {"A a+[a.x == #a] WITHIN 5", "A1=1 A2=2 A3=2 A4=3", "0@1 0,1@2 0,2@3 0,1,3@4 0,2,3@4"},
		{"A a+ ; B b[b.x == #a] WITHIN 5", "A1 A2 B3=2", "0,1;2@3"}, {"A a ; B b[1 / b.x == 1] WITHIN 5", "A1 B2 B3=1", "0;2@3"}, {"A a+[a.x > 0] ; B b WITHIN 5", "A1=1 A2 A3=1 B4", "0;3@4 0,2;3@4 2;3@4"},
		{"A a ; B b WITHIN 5 EMIT s: a.x + b.x, n: #b", "A1=1 B2=2", "0;1@2:3:1"}, {"A a ; B b WITHIN 5 EMIT q: a.x / b.x", "A1=1 B2 B3=1", "0;2@3:1"}, {"A a+ WITHIN 5 EMIT x: a.x, n: #a", "A1=1 A2=2", "0@1:1:1 0,1@2:2:2 1@2:2:1"}, {"A a ; !B b WITHIN 5 EMIT x: 1 / a.x", "A1 A2=1", "1;@7:1"},
		{"A a ; B b WITHIN 5", "Z0 A1 Z2 B3", "1;3@3"}, {"A a ; D d WITHIN 5", "A1 D3", "0;1@3"},
		{"A a ; B b WITHIN 5", "A9 B3 B9 A3 B8", "0;2@9 3;4@8"}, {"A a ; B b ; C c WITHIN 5", "A3 B9 B4 C8 C3 C2", "0;2;3@8 0;2;4@3"}, {"A a ; !C c ; B b WITHIN 5", "A3 C99 B4", ""}, {"STRICT A a ; B b WITHIN 5", "A3 B99 B4", ""},
	} {
		l, e := denote.All(streams(), parsed(t, "q = "+c.q), entries(c.in))
		if got := shown(l); got != c.want || e != api.OK {
			t.Errorf("%s of %s: %s, want %s", c.q, c.in, got, c.want)
		}
	}
}

// TestOdd (P13.1, P13.2): entries that do not count, and times at the end.
func TestOdd(t *testing.T) {
	in := entries("A1 A2 B3 C3 A4")
	in[0].E.V = nil
	in[1].E.V[0] = value.Value{Kind: value.Text}
	in[2].E.Time = -3
	in[3].Stream = ""
	l, e := denote.All(streams(), parsed(t, "q = A | B | C a WITHIN 5"), in)
	if got := shown(l); got != "4@4" || e != api.OK {
		t.Error(got, e)
	}
	last := entries("A2305843009213693952 A2305843009213693953")
	l, _ = denote.All(streams(), parsed(t, "q = A a ; !B b WITHIN 1000000"), last)
	if got := shown(l); got != "0;@2305843009214693952" {
		t.Error(got)
	}
}

// TestErrors (P13.2, P2): those of Check.
func TestErrors(t *testing.T) {
	for s, want := range map[string]api.Errno{"q = Z a WITHIN 1": api.ErrName, "A = A a WITHIN 1": api.ErrTwice, "q = A a[a.x] WITHIN 1": api.ErrType} {
		if l, e := denote.All(streams(), parsed(t, s), entries("A1")); len(l) != 0 || e != want {
			t.Error(s, l, e)
		}
	}
	if l, e := denote.All(streams(), query.Query{}, entries("A1")); len(l) != 0 || e != api.ErrArg {
		t.Error(l, e)
	}
	if l, e := denote.All(make([]stream.Stream, 9), query.Query{}, nil); len(l) != 0 || e != api.ErrLimit {
		t.Error(l, e)
	}
}

// TestCounts (P13.1): streams of the query, and of the list, and what fits the first one.
func TestCounts(t *testing.T) {
	q := parsed(t, "q = A a ; !B b WITHIN 1")
	l := append(streams()[:2:2], stream.Stream{Name: "A"})
	a, b := entries("A1")[0], entries("B1")[0]
	for i, c := range []struct {
		l    []stream.Stream
		q    query.Query
		x    denote.Entry
		want bool
	}{
		{l, q, a, true}, {l, q, b, true}, {l[1:], q, a, false}, {l[:1], q, b, false}, {nil, q, a, false}, {l, query.Query{}, a, false},
		{l[1:], q, denote.Entry{Stream: "A", E: event.Event{Time: 1}}, true}, {l, q, denote.Entry{Stream: "A", E: event.Event{Time: 1}}, false}, {l, q, denote.Entry{Stream: "A", E: event.Event{Time: -1, V: a.E.V}}, false},
		{streams(), q, denote.Entry{Stream: "C", E: a.E}, false}, {l, q, denote.Entry{E: a.E}, false},
		{l, query.Query{Parts: []query.Part{{Streams: []string{"A", "A", ""}}}}, a, true},
	} {
		if got := denote.Counts(c.l, c.q, c.x); got != c.want {
			t.Error(i, got)
		}
	}
}

// TestOrder (P13.3): lists against lists.
func TestOrder(t *testing.T) {
	l := [][][]int{
		nil, {nil}, {nil, {0}}, {{-1}}, {{0}}, {{0}, nil}, {{0}, {1}}, {{0}, {1}, nil}, {{0}, {1, 2}}, {{0}, {2}}, {{0, 1}}, {{0, 1}, {0}}, {{0, 2}}, {{1}}, {{1, 0}},
	}
	for i, a := range l {
		for k, b := range l {
			if got := denote.Order(a, b); (got < 0) != (i < k) || (got > 0) != (i > k) {
				t.Error(a, b, got)
			}
		}
	}
	if denote.Order([][]int{nil}, [][]int{{}}) != 0 {
		t.Error("nil, or empty")
	}
}

// TestSent (P13.3): those whose At is above all ahead.
func TestSent(t *testing.T) {
	for text, want := range map[string]string{"": "", "5": "5", "0": "0", "-5 -6 -4": "-5 -4", "1 1 2 0 2 3": "1 2 3", "9 1 2": "9", "-9223372036854775808 0": "-9223372036854775808 0"} {
		l := []denote.Match{}
		for i, s := range strings.Fields(text) {
			at, _ := strconv.ParseInt(s, 10, 64)
			l = append(l, denote.Match{At: at, E: event.Event{Time: at, V: []value.Value{{Kind: value.Int, N: int64(i)}}}})
		}
		got := []string{}
		for _, e := range denote.Sent(l) {
			got = append(got, strconv.FormatInt(e.Time, 10))
			if i := e.V[0].N; l[i].At != e.Time || slices.ContainsFunc(l[:i], func(m denote.Match) bool { return m.At >= e.Time }) {
				t.Error(text, e)
			}
		}
		if strings.Join(got, " ") != want {
			t.Error(text, got)
		}
	}
}

// inOrder tells the matches in the document's order.
func inOrder(q query.Query, l []denote.Match) []denote.Match {
	last := func(m denote.Match) int64 {
		if query.Waits(q) {
			return m.At
		}
		list := m.Parts[len(m.Parts)-1]
		return int64(list[len(list)-1])
	}
	slices.SortFunc(l, func(a, b denote.Match) int {
		return cmp.Or(cmp.Compare(last(a), last(b)), denote.Order(a.Parts, b.Parts))
	})
	return l
}

// TestMeaning (P13.1, P13.2): of queries and entries as they fall all matches, each once, in order.
func TestMeaning(t *testing.T) {
	d := trial.New(1)
	told, waits, strict := 0, 0, 0
	for range 6000 {
		l := trial.Streams()
		q := parsed(t, d.Query("q", []string{"A", "B", "C"}))
		in := d.Entries(l, d.Roll(8), d.Roll(2) == 0)
		got, e := denote.All(l, q, in)
		if e != api.OK {
			t.Fatal(query.Put(q), e)
		}
		want := inOrder(q, trial.Meaning{L: l, Q: q, In: in}.Matches())
		if !trial.Same(got, want) {
			t.Fatalf("%s of %v: %s, want %s", query.Put(q), in, shown(got), shown(want))
		}
		told += min(len(got), 1)
		if len(got) > 0 && query.Waits(q) {
			waits++
		}
		if len(got) > 0 && q.Strict {
			strict++
		}
	}
	if told < 1000 || waits < 100 || strict < 100 {
		t.Error("too few", told, waits, strict)
	}
}

// TestBeginning (P13.4): where times do not fall, more entries turn nothing that is settled.
func TestBeginning(t *testing.T) {
	d := trial.New(2)
	for range 1500 {
		l := trial.Streams()
		q := parsed(t, d.Query("q", []string{"A", "B"}))
		in := d.Entries(l, 9, true)
		all, _ := denote.All(l, q, in)
		for n := range in {
			some, _ := denote.All(l, q, in[:n])
			settled := slices.DeleteFunc(some, func(m denote.Match) bool { return query.Waits(q) && m.At >= in[n].E.Time })
			if len(settled) > len(all) || !trial.Same(settled, all[:len(settled)]) {
				t.Fatal(query.Put(q), n, shown(settled), shown(all))
			}
		}
	}
}

// TestNew (P3, P4): what is told is new each time, and may be turned.
func TestNew(t *testing.T) {
	in := entries("A1=1 A2=2 B3=3")
	q := parsed(t, "q = A a+ ; B b WITHIN 5 EMIT x: a.x")
	first, _ := denote.All(streams(), q, in)
	for _, m := range first {
		for i := range m.Parts {
			m.Parts[i] = append(m.Parts[i], 99)
			m.Parts[i][0] = 77
		}
		m.E.V[0].N = 99
	}
	if got := shown(first); got != "77,99;77,99@3:99 77,1,99;77,99@3:99 77,99;77,99@3:99" {
		t.Error(got)
	}
	again, _ := denote.All(streams(), q, in)
	if got := shown(again); got != "0;2@3:1 0,1;2@3:2 1;2@3:2" {
		t.Error(got)
	}
}

// TestMany (P1): many entries, where all ways but few are in vain.
func TestMany(t *testing.T) {
	text := []string{}
	for i := range 3000 {
		text = append(text, "A"+strconv.Itoa(i/10))
	}
	l, e := denote.All(streams(), parsed(t, "q = A a+ ; B b WITHIN 1000000"), entries(strings.Join(text, " ")))
	if len(l) != 0 || e != api.OK {
		t.Error(len(l), e)
	}
	l, e = denote.All(streams(), parsed(t, "q = A a+ ; B b WITHIN 1000000"), entries("A0 B0 "+strings.Join(text, " ")))
	if shown(l) != "0;1@0" || e != api.OK {
		t.Error(len(l), e)
	}
	l, e = denote.All(streams(), parsed(t, "q = STRICT A a+[#a > 1 || a.x == 1] ; B b WITHIN 1000000"), entries("A0=1 "+strings.Join(text, " ")+" B999"))
	if len(l) != 1 || len(l[0].Parts[0]) != 3001 || e != api.OK {
		t.Error(len(l), e)
	}
}
