package total_test

import (
	"math"
	"slices"
	"strconv"
	"strings"
	"testing"

	"marshalling/api"
	"marshalling/denote"
	"marshalling/event"
	"marshalling/merge"
	"marshalling/parse"
	"marshalling/query"
	"marshalling/stream"
	"marshalling/total"
	"marshalling/trial"
	"marshalling/value"
)

func all(t *testing.T, texts ...string) []query.Query {
	t.Helper()
	l := []query.Query{}
	for _, s := range texts {
		q, at, e := parse.Parse(s)
		if e != api.OK {
			t.Fatal(s, at, e)
		}
		l = append(l, q)
	}
	return l
}

func at(now int64, n ...int64) event.Event {
	e := event.Event{Time: now}
	for _, n := range n {
		e.V = append(e.V, value.Value{Kind: value.Int, N: n})
	}
	return e
}

func named(name string) stream.Stream {
	return stream.Stream{Name: name, Fields: []stream.Field{{Name: "x", Kind: value.Int}}}
}

func read(l []denote.Entry) string {
	texts := []string{}
	for _, x := range l {
		texts = append(texts, x.Stream+strconv.FormatInt(x.E.Time, 10))
	}
	return strings.Join(texts, " ")
}

func shown(l []denote.Match) string {
	texts := []string{}
	for _, m := range l {
		parts := []string{}
		for _, p := range m.Parts {
			s := []string{}
			for _, i := range p {
				s = append(s, strconv.Itoa(i))
			}
			parts = append(parts, strings.Join(s, ","))
		}
		texts = append(texts, strings.Join(parts, ";")+"@"+strconv.FormatInt(m.At, 10))
	}
	return strings.Join(texts, " ")
}

func times(l []event.Event) string {
	texts := []string{}
	for _, e := range l {
		texts = append(texts, strconv.FormatInt(e.Time, 10))
	}
	return strings.Join(texts, " ")
}

// TestEntries (P21.1): in one order, with the names; no entry of an input that has none.
func TestEntries(t *testing.T) {
	ins := [][]event.Event{{at(2), at(5)}, {at(1), at(2)}, {at(0), at(9)}}
	for _, c := range []struct {
		want  string
		names []string
	}{
		{"c0 b1 a2 b2 a5 c9", []string{"a", "b", "c"}}, {"c0 b1 a2 b2 a5 c9", []string{"a", "b", "c", "d"}},
		{"b1 a2 b2 a5", []string{"a", "b"}}, {"a2 a5", []string{"a"}}, {"", nil}, {"", []string{}},
		{"a0 a1 a2 a2 a5 a9", []string{"a", "a", "a"}},
		// The empty text is a name that stands at its place.
		{"1 a2 2 a5", []string{"a", ""}},
	} {
		if got := read(total.Entries(c.names, ins)); got != c.want {
			t.Error(c.names, got)
		}
	}
	if len(total.Entries([]string{"a"}, nil)) != 0 || len(total.Entries(nil, make([][]event.Event, 3))) != 0 || len(total.Entries(nil, nil)) != 0 {
		t.Error("nothing")
	}
	if got := read(total.Entries([]string{"a", "b"}, [][]event.Event{{at(5), at(1)}, {at(3), at(-4)}})); got != "b3 b-4 a5 a1" {
		t.Error(got)
	}
}

// TestEntriesAll (P21.1): just those of All, in its order, whose input has a name; what is handed in stays.
func TestEntriesAll(t *testing.T) {
	for seed := range 600 {
		d := trial.New(seed)
		names := []string{"a", "b", "c", "d"}[:d.Roll(5)]
		var ins, before [][]event.Event
		for range d.Roll(6) {
			var l []event.Event
			for range d.Roll(4) {
				l = append(l, at(int64(d.Roll(6)), int64(d.Roll(9))))
			}
			ins, before = append(ins, l), append(before, slices.Clone(l))
		}
		got := total.Entries(names, ins)
		for _, p := range merge.All(ins) {
			if p.Input >= len(names) {
				continue
			}
			if len(got) == 0 || got[0].Stream != names[p.Input] || !event.Same(got[0].E, p.E) {
				t.Fatal(seed, got, p)
			}
			got = got[1:]
		}
		if len(got) != 0 {
			t.Fatal(seed, got)
		}
		for i := range ins {
			if !slices.EqualFunc(ins[i], before[i], event.Same) {
				t.Fatal(seed, "turned")
			}
		}
	}
}

// TestOf (P21.2): what each query reads, means, and sends, whatever their order.
func TestOf(t *testing.T) {
	l := []total.Source{{named("A"), []event.Event{at(1, 1), at(2), at(-1, 1), at(3, 3), {Time: 4, V: []value.Value{{Kind: value.Bool}}}}}, {named("B"), []event.Event{at(3, 3), at(8, 8)}}, {S: named("C")}}
	r, e := total.Of(l, all(t, "w = u z ; v b WITHIN 4 EMIT t: 't'", "u = A | B a WITHIN 1 EMIT x: a.x", "v = B | A a ; A | B b WITHIN 9", "n = C c WITHIN 1"))
	if e != api.OK || len(r) != 4 {
		t.Fatal(e)
	}
	for i, want := range []struct{ derived, in, l, sent string }{
		{"w(t:text)", "u1 u3 v3 u8 v8", "0;2@3 1;2@3 3;4@8", "3 8"},
		{"u(x:int)", "A1 A3 B3 B8", "0@1 1@3 2@3 3@8", "1 3 8"},
		{"v()", "A1 B3 A3 B8", "0;1@3 0;2@3 1;2@3 0;3@8 1;3@8 2;3@8", "3 8"}, {"n()", "", "", ""},
	} {
		got := r[i]
		if stream.Put(got.Derived) != want.derived || read(got.In) != want.in || shown(got.L) != want.l || times(got.Sent) != want.sent {
			t.Error(i, stream.Put(got.Derived), read(got.In), shown(got.L), times(got.Sent))
		}
	}
	if r, e := total.Of(nil, nil); len(r) != 0 || e != api.OK {
		t.Error(r, e)
	}
	if r, e := total.Of(l, nil); len(r) != 0 || e != api.OK {
		t.Error(r, e)
	}
}

// TestIn (P21.2): what a query reads is Entries of its Inputs, each at its place, of a source what fits, of a query what is sent.
func TestIn(t *testing.T) {
	several := 0
	for seed := range 300 {
		d := trial.New(seed)
		streams := trial.Streams()
		var sources []total.Source
		fits := map[string][]event.Event{}
		for _, s := range streams {
			source := total.Source{S: s}
			for i := range d.Roll(5) {
				e := d.Event(s, int64(2*i+d.Roll(2)))
				if d.Roll(4) == 0 {
					e.V = e.V[1:]
				} else {
					fits[s.Name] = append(fits[s.Name], e)
				}
				source.L = append(source.L, e)
			}
			sources = append(sources, source)
		}
		qs := all(t, d.Queries(streams)...)
		results, e := total.Of(sources, qs)
		if e != api.OK {
			t.Fatal(seed, e)
		}
		for i, q := range qs {
			fits[q.Name] = results[i].Sent
		}
		for i, q := range qs {
			var ins [][]event.Event
			for _, name := range query.Inputs(q) {
				ins = append(ins, fits[name])
			}
			if want := total.Entries(query.Inputs(q), ins); !slices.EqualFunc(results[i].In, want, func(a, b denote.Entry) bool { return a.Stream == b.Stream && event.Same(a.E, b.E) }) {
				t.Fatal(seed, query.Put(q), read(results[i].In), read(want))
			}
			several += len(ins) / 2
		}
	}
	if several < 100 {
		t.Error("too few", several)
	}
}

// TestNotThere (P21.2): an Input that is not there is refused, wherever it stands among those that are.
func TestNotThere(t *testing.T) {
	l := []total.Source{{named("A"), []event.Event{at(1, 1)}}, {named("B"), []event.Event{at(2, 2)}}}
	for _, text := range []string{"q = Z | A a WITHIN 5", "q = A | Z a WITHIN 5", "q = A a ; Z z ; B b WITHIN 5", "q = A a ; !Z z ; B b WITHIN 5", "q = Z z ; A a ; B b WITHIN 5", "q = A a ; B b ; Z z WITHIN 5"} {
		if r, e := total.Of(l, all(t, "p = A a WITHIN 1", text)); len(r) != 0 || e != api.ErrName {
			t.Error(text, r, e)
		}
	}
}

// TestLast (P21.2): what is not plain is not sent.
func TestLast(t *testing.T) {
	l := []total.Source{{named("A"), []event.Event{at(api.MaxTime-2, 1), at(api.MaxTime-1, 1)}}}
	r, e := total.Of(l, all(t, "q = A a ; !A b[b.x == 2] WITHIN 2"))
	if e != api.OK || len(r[0].L) != 2 || times(r[0].Sent) != strconv.Itoa(api.MaxTime) {
		t.Error(e, r)
	}
	// Sources whose times do not rise, or stay, may be.
	l = []total.Source{{named("A"), []event.Event{at(5, 1), at(5, 2), at(1, 1), at(6, 1)}}}
	r, e = total.Of(l, all(t, "q = A a WITHIN 2"))
	if e != api.OK || shown(r[0].L) != "0@5 1@5 2@1 3@6" || times(r[0].Sent) != "5 6" {
		t.Error(e, shown(r[0].L), times(r[0].Sent))
	}
}

// TestOfWrong (P21.2, P2): each error, and which comes first.
func TestOfWrong(t *testing.T) {
	a, b := total.Source{S: named("A")}, total.Source{S: named("B")}
	for i, c := range []struct {
		l     []total.Source
		texts []string
		want  api.Errno
	}{
		{make([]total.Source, 9), []string{"A = A a WITHIN 1"}, api.ErrLimit}, {[]total.Source{{}}, nil, api.ErrName}, {[]total.Source{a, a}, []string{"A = A a WITHIN 1"}, api.ErrTwice}, {[]total.Source{{S: stream.Stream{Name: "A", Fields: []stream.Field{{Name: "x"}}}}}, nil, api.ErrType},
		{[]total.Source{a, b}, []string{"q = q a WITHIN 1", "B = A a WITHIN 1"}, api.ErrTwice}, {[]total.Source{a}, []string{"q = q a WITHIN 1", "q = A a WITHIN 1"}, api.ErrTwice}, {[]total.Source{a}, []string{"p = Z a WITHIN 1", "q = q a WITHIN 1"}, api.ErrCycle}, {[]total.Source{a}, []string{"p = q a WITHIN 1", "q = p a WITHIN 1"}, api.ErrCycle},
		{[]total.Source{a}, []string{"p = Z a WITHIN 1"}, api.ErrName}, {[]total.Source{a}, []string{"p = q a[1] WITHIN 1", "q = Z a WITHIN 1"}, api.ErrName}, {[]total.Source{a}, []string{"p = q a[1] WITHIN 1", "q = A a WITHIN 1"}, api.ErrType}, {nil, []string{"p = A a WITHIN 1"}, api.ErrName}, {[]total.Source{a}, []string{"p = A a[1] WITHIN 1", "q = Z a WITHIN 1"}, api.ErrType},
	} {
		if r, e := total.Of(c.l, all(t, c.texts...)); len(r) != 0 || e != c.want {
			t.Error(i, r, e)
		}
	}
	if r, e := total.Of([]total.Source{a}, []query.Query{{}}); len(r) != 0 || e != api.ErrArg {
		t.Error(r, e)
	}
	// What is not there is left out ahead of all other errors.
	if r, e := total.Of([]total.Source{a}, []query.Query{{Name: "q", Parts: []query.Part{{Streams: []string{"Z"}}}}}); len(r) != 0 || e != api.ErrArg {
		t.Error(r, e)
	}
	nine := query.Query{Name: "q", Parts: []query.Part{{Streams: []string{"A"}, Var: "a"}}, Within: math.MaxInt64}
	if r, e := total.Of([]total.Source{a}, []query.Query{nine}); len(r) != 0 || e != api.ErrArg {
		t.Error(r, e)
	}
}

// TestAlone (P21.3): what is meant of a query hangs on what it comes of alone; what is sent rises.
func TestAlone(t *testing.T) {
	told := 0
	for seed := range 400 {
		d := trial.New(seed)
		streams := trial.Streams()
		var sources []total.Source
		given := map[string][]event.Event{}
		for _, s := range streams {
			now := int64(0)
			for range d.Roll(5) {
				now += int64(1 + d.Roll(3))
				given[s.Name] = append(given[s.Name], d.Event(s, now))
			}
			sources = append(sources, total.Source{S: s, L: given[s.Name]})
		}
		qs := all(t, d.Queries(streams)...)
		meant := trial.Together(streams, given, qs)
		some := qs[:1+d.Roll(len(qs))]
		turned := slices.Clone(some)
		slices.Reverse(turned)
		r, e := total.Of(sources, some)
		s, f := total.Of(sources, turned)
		if e != api.OK || f != api.OK {
			t.Fatal(e, f)
		}
		for i, q := range some {
			x, y := r[i], s[len(s)-1-i]
			if !trial.Same(x.L, meant[q.Name]) || !trial.Same(x.L, y.L) || read(x.In) != read(y.In) || !slices.EqualFunc(x.Sent, y.Sent, event.Same) {
				t.Fatal(seed, query.Put(q), shown(x.L), shown(meant[q.Name]))
			}
			if !slices.IsSortedFunc(x.Sent, func(a, b event.Event) int {
				if a.Time < b.Time {
					return -1
				}
				return 1
			}) {
				t.Fatal(times(x.Sent))
			}
			told += min(1, len(x.Sent))
		}
	}
	if told < 100 {
		t.Error("too few", told)
	}
}

// TestShares (P3): what is told may be turned, without turning anything else.
func TestShares(t *testing.T) {
	e := at(1, 1)
	l := []total.Source{{named("A"), []event.Event{e}}}
	r, _ := total.Of(l, all(t, "p = A a WITHIN 1 EMIT x: a.x", "q = p a WITHIN 1 EMIT x: a.x"))
	r[0].In[0].E.V[0].N, r[0].L[0].E.V[0].N, r[0].Sent[0].V[0].N = 7, 8, 9
	if e.V[0].N != 1 || r[1].In[0].E.V[0].N != 1 || r[1].L[0].E.V[0].N != 1 || r[1].Sent[0].V[0].N != 1 || r[0].In[0].E.V[0].N != 7 || r[0].L[0].E.V[0].N != 8 {
		t.Error("turned")
	}
}
