package machine_test

import (
	"math"
	"slices"
	"strconv"
	"strings"
	"testing"

	"marshalling/api"
	"marshalling/denote"
	"marshalling/event"
	"marshalling/machine"
	"marshalling/parse"
	"marshalling/query"
	"marshalling/stream"
	"marshalling/trial"
	"marshalling/value"
)

func parsed(t *testing.T, s string) query.Query {
	t.Helper()
	q, at, e := parse.Parse(s)
	if e != api.OK {
		t.Fatal(s, at, e)
	}
	return q
}

// streams are A, B and C of an x.
func streams() []stream.Stream {
	x := []stream.Field{{Name: "x", Kind: value.Int}}
	return []stream.Stream{{Name: "A", Fields: x}, {Name: "B", Fields: x}, {Name: "C", Fields: x}}
}

func made(t *testing.T, q string, most int) *machine.Machine {
	t.Helper()
	m, e := machine.New(streams(), parsed(t, "q = "+q), most)
	if m == nil || e != api.OK {
		t.Fatal(q, m, e)
	}
	return m
}

// entry tells that of a text: A3 is of A at 3, A3=7 has an x of 7, else of 0.
func entry(s string) denote.Entry {
	at, x, _ := strings.Cut(s[1:], "=")
	now, _ := strconv.ParseInt(at, 10, 64)
	n, _ := strconv.ParseInt(x, 10, 64)
	return denote.Entry{Stream: s[:1], E: event.Event{Time: now, V: []value.Value{{Kind: value.Int, N: n}}}}
}

func shown(l []denote.Match) string {
	texts := []string{}
	for _, m := range l {
		parts := []string{}
		for _, p := range m.Parts {
			s := []string{}
			for _, i := range p {
				s = append(s, strconv.Itoa(i))
			}
			parts = append(parts, strings.Join(s, ","))
		}
		texts = append(texts, strings.Join(parts, ";")+"@"+strconv.FormatInt(m.At, 10))
	}
	return strings.Join(texts, " ")
}

// play does what the words say: entries, =9 a mark of 9, ! a close; and tells behind each what is told, and Runs.
func play(t *testing.T, m *machine.Machine, words string) string {
	t.Helper()
	told := []string{}
	for _, w := range strings.Fields(words) {
		var l []denote.Match
		var e api.Errno
		switch w[0] {
		case '!':
			l = m.Close()
		case '=':
			now, _ := strconv.ParseInt(w[1:], 10, 64)
			l, e = m.Mark(now)
		default:
			l, e = m.Take(entry(w))
		}
		text := strconv.Itoa(m.Runs())
		if len(l) > 0 {
			text += "{" + shown(l) + "}"
		}
		if e != api.OK {
			text += "e" + strconv.Itoa(int(e))
		}
		if m.Over() {
			text += "o"
		}
		told = append(told, text)
	}
	return strings.Join(told, " ")
}

// TestNew (P15.1, P2): the errors of Check, then of most; a machine that took nothing.
func TestNew(t *testing.T) {
	q := parsed(t, "q = A a WITHIN 1 EMIT x: a.x, y: true")
	for i, c := range []struct {
		l    []stream.Stream
		q    query.Query
		most int
		want api.Errno
	}{
		{nil, q, 0, api.ErrName}, {streams(), query.Query{}, 0, api.ErrArg}, {make([]stream.Stream, 9), q, 1, api.ErrLimit}, {streams(), parsed(t, "A = A a WITHIN 1"), -1, api.ErrTwice},
		{streams(), q, 0, api.ErrArg}, {streams(), q, -1, api.ErrArg}, {streams(), q, 1025, api.ErrArg}, {streams(), q, math.MaxInt, api.ErrArg}, {streams(), q, math.MinInt, api.ErrArg},
	} {
		if m, e := machine.New(c.l, c.q, c.most); m != nil || e != c.want {
			t.Error(i, e)
		}
	}
	for _, most := range []int{1, 1024} {
		m, e := machine.New(streams(), q, most)
		if e != api.OK || m.Next() != 0 || m.Now() != 0 || m.Closed() || m.Over() || m.Runs() != 0 {
			t.Error(most, e)
		}
		for range 2 {
			d := m.Derived()
			if stream.Put(d) != "q(x:int,y:bool)" {
				t.Error(stream.Put(d))
			}
			d.Fields[0].Name = "turned"
		}
	}
}

// TestPlays (P15.2, P15.3): what is told, and how many runs and waits there are, behind each call.
func TestPlays(t *testing.T) {
	for _, c := range []struct{ q, words, want string }{
		{"A a ; B b WITHIN 5", "A1 B3 B9", "1 1{0;1@3} 0"}, {"A a ; B b WITHIN 5", "A1 A2", "1 2"}, {"A a WITHIN 5", "A1 B1 A1", "0{0@1} 0e7 0{1@1}"},
		{"A a ; B b WITHIN 5", "A1 =6 =7 !", "1 1 0 0"}, {"A a ; B b WITHIN 5", "A1 A7", "1 1"}, {"A a ; B b WITHIN 5", "A1 B6", "1 1{0;1@6}"}, {"A a ; B b WITHIN 5", "A1 A2 B3", "1 2 2{0;2@3 1;2@3}"},
		{"A a+ WITHIN 5", "A1 A2 =7", "1{0@1} 3{0,1@2 1@2} 1"}, {"A a+ ; B b WITHIN 5", "A1 A2 B3", "1 3 3{0;2@3 0,1;2@3 1;2@3}"}, {"A a ; B b+ WITHIN 5", "A1 B2 B3", "1 2{0;1@2} 4{0;1,2@3 0;2@3}"}, {"A a ; B b ; C c WITHIN 5", "A1 B2 C3", "1 2 2{0;1;2@3}"},
		{"STRICT A a ; B b WITHIN 5", "A1 A2 B3 B4", "1 1 0{1;2@3} 0"}, {"STRICT A a+ ; B b WITHIN 5", "A1 A2 B3", "1 2 0{0,1;2@3 1;2@3}"}, {"STRICT A a ; B b WITHIN 5 BY x", "A1=1 A2=2 B3=1 B4=2", "1 2 1{0;2@3} 0{1;3@4}"},
		{"A a ; !C c ; B b WITHIN 5", "A1 B2 C3 B4", "1 1{0;;1@2} 0 0"}, {"A a+ ; !C c ; B b WITHIN 9", "A1 C2 B3 A4 B5", "1 1 1 3 3{0,3;;4@5 3;;4@5}"}, {"A a ; !C c[c.x == a.x] ; B b WITHIN 5", "A1=1 C2 C2=1", "1 1 0"},
		{"A a ; !B b WITHIN 5", "A1 A2 =6 =7 =8", "1 2 2 1{0;@6} 0{1;@7}"}, {"A a ; !B b WITHIN 5", "A1 B2 !", "1 0 0"}, {"A a ; !B b WITHIN 5", "A1 A2 !", "1 2 0{0;@6 1;@7}"}, {"A a ; !B b WITHIN 5", "A1 A2 B7 !", "1 2 0{0;@6} 0"}, {"A a ; !B b WITHIN 5", "A1 B6 !", "1 0 0"},
		{"A a+ ; !B b WITHIN 5", "A1 A2 B3 A4 !", "2 6 3 11 0{0,1,3;@6 0,3;@6 1,3;@7 3;@9}"}, {"A a ; B b ; !C c WITHIN 5", "A1 B2 B3 C4 B5 !", "1 2 3 1 2 0{0;4;@6}"}, {"A a ; !B b[b.x > a.x] WITHIN 5", "A1=1 A1=2 B2=2 !", "1 2 1 0{1;@6}"},
		{"A a ; !B b WITHIN 5 BY x", "A1=1 A1=2 B2=2 !", "1 2 1 0{0;@6}"}, {"A a ; !B b WITHIN 5 EMIT x: 1 / a.x", "A1=1 A1 !", "1 1 0{0;@6}"}, {"A a ; A b ; !C c WITHIN 5", "A1 A2 A4 !", "1 3 6 0{0;1;@6 0;2;@6 1;2;@7}"},
		{"A a[a.x > 1] ; B b WITHIN 5", "A1 A1=2 B1", "0 1 1{1;2@1}"}, {"A a+[#a < 3] WITHIN 5", "A1 A1 A1", "1{0@1} 3{0,1@1 1@1} 6{0,2@1 1,2@1 2@1}"}, {"A a ; B b WITHIN 5 EMIT x: a.x / b.x", "A1 B2 B2=1", "1 1 1{0;2@2}"},
		{"A a ; !B b WITHIN 0", "A1 =1 =2", "1 1 0{0;@1}"}, {"A a ; !B b ; C c ; !B d WITHIN 5", "A1 C2 B3 C4 !", "1 2 0 0 0"},
	} {
		if got := play(t, made(t, c.q, 1024), c.words); got != c.want {
			t.Errorf("%s of %s: %s, want %s", c.q, c.words, got, c.want)
		}
	}
}

// TestRefused (P15.3, P2): each error, which comes first, and that nothing is turned.
func TestRefused(t *testing.T) {
	m := made(t, "A a ; !B b WITHIN 5", 4)
	play(t, m, "A3")
	take := func(x denote.Entry, want api.Errno) {
		t.Helper()
		if l, e := m.Take(x); len(l) != 0 || e != want || m.Next() != 1 || m.Runs() != 1 && !m.Closed() {
			t.Error(x, l, e)
		}
	}
	mark := func(now int64, want api.Errno) {
		t.Helper()
		at := m.Now()
		if l, e := m.Mark(now); len(l) != 0 || e != want || want != api.OK && m.Now() != at {
			t.Error(now, l, e)
		}
	}
	odd, late := entry("A9"), entry("C1")
	odd.E.V = nil
	take(odd, api.ErrForm)
	take(late, api.ErrForm)
	take(entry("C9"), api.ErrForm)
	take(entry("A2"), api.ErrLate)
	odd.E.Time = 2
	take(odd, api.ErrForm)
	mark(2, api.ErrLate)
	mark(-1, api.ErrLate)
	mark(math.MinInt64, api.ErrLate)
	mark(api.MaxTime+1, api.ErrForm)
	mark(math.MaxInt64, api.ErrForm)
	mark(3, api.OK)
	mark(5, api.OK)
	take(entry("A4"), api.ErrLate)
	if m.Now() != 5 || m.Closed() {
		t.Error(m.Now())
	}
	if got := shown(m.Close()); got != "0;@8" || !m.Closed() || m.Runs() != 0 {
		t.Error(got)
	}
	take(odd, api.ErrClosed)
	take(entry("A9"), api.ErrClosed)
	mark(9, api.ErrClosed)
	mark(api.MaxTime+1, api.ErrClosed)
	if len(m.Close()) != 0 || m.Now() != 5 {
		t.Error("closed twice")
	}
	last := made(t, "A a ; !B b WITHIN 5", 4)
	if got := play(t, last, "A2305843009213693952 =2305843009213693952 !"); got != "1 1 0{0;@2305843009213693957}" {
		t.Error(got)
	}
}

// TestOver (P15.4): behind which Take it is over, what that tells, and what is as ever behind it.
func TestOver(t *testing.T) {
	for _, c := range []struct {
		q, words, want string
		most           int
	}{
		{"A a ; B b WITHIN 5", "A1 A2 A3 B4", "1 2 0o 0o", 2}, {"A a ; B b WITHIN 5", "A1 A2 A8 A8 A8", "1 2 1 2 0o", 2}, {"A a+ WITHIN 5", "A1 A1 A1", "1{0@1} 3{0,1@1 1@1} 0o", 3}, {"A a+ WITHIN 5", "A1 A1", "1{0@1} 0o", 2},
		{"A a ; !B b WITHIN 5", "A1 A2 A7 !", "1 2 2{0;@6} 0{1;@7 2;@12}", 2}, {"A a ; !B b WITHIN 5", "A1 A2 A3 !", "1 2 0o 0o", 2}, {"A a+ ; !B b WITHIN 1", "A1 A3 A3 =9", "2 2{0;@2} 0o 0o", 5}, {"A a+ ; !B b WITHIN 1", "A1 A3 A3 !", "2 2{0;@2} 6 0{1;@4 1,2;@4 2;@4}", 6},
		{"A a ; A b ; !B c WITHIN 2", "A1 A2 A3 A4 A4 A4", "1 3 6 6{0;1;@3 0;2;@3} 0o 0o", 6}, {"A a+ ; !B b WITHIN 3 BY x", "A1=1 A4=2 A4=2 A5=2 !", "2 4 8 0{0;@4}o 0o", 8},
		{"A a+ ; !B b WITHIN 3", "A1 A5=1 A5 A5 A6 =7", "2 2{0;@4} 6 14 0o 0o", 14}, {"A a ; B b WITHIN 5", "A1 A1 =2 B1 =1 Z1 !", "1 0o 0o 0e8o 0e8o 0e7o 0o", 1},
	} {
		if got := play(t, made(t, c.q, c.most), c.words); got != c.want {
			t.Errorf("%s of %s: %s, want %s", c.q, c.words, got, c.want)
		}
	}
	m := made(t, "A a ; !B b WITHIN 1", 2)
	if got := play(t, m, "A1 A2 A3 A3 A4 B4"); got != "1 2 2{0;@2} 0o 0o 0o" || m.Next() != 6 || m.Now() != 4 || m.Closed() {
		t.Error(got, m.Next(), m.Now())
	}
}

// oracle tells how many runs and waits there are, as the document says it.
func oracle(l []stream.Stream, q query.Query, in []denote.Entry, now int64) int {
	m := trial.Meaning{L: l, Q: q, In: in}
	n, last := 0, 0
	for p, part := range q.Parts {
		if !part.Not {
			last = p
		}
	}
	for p, part := range q.Parts {
		if part.Not || p == last && !part.Plus {
			continue
		}
		for _, parts := range m.Lists(p) {
			if alive(m, parts, p, now) {
				n++
			}
		}
	}
	if query.Waits(q) {
		for _, x := range m.Matches() {
			if x.At >= now {
				n++
			}
		}
	}
	return n
}

func alive(m trial.Meaning, parts [][]int, p int, now int64) bool {
	first, last := parts[0][0], parts[p][len(parts[p])-1]
	if m.In[first].E.Time+m.Q.Within < now {
		return false
	}
	next := p + 1
	for next < len(m.Q.Parts) && m.Q.Parts[next].Not {
		next++
	}
	for k := last + 1; k < len(m.In); k++ {
		if m.Q.Strict && by(m, k) == by(m, first) {
			return false
		}
		if !m.Q.Parts[p].Plus && m.Guarded(slices.Concat(parts, make([][]int, next-p-1)), next, first, k) {
			return false
		}
	}
	return true
}

func by(m trial.Meaning, i int) value.Value {
	if m.Q.By == "" {
		return value.Value{}
	}
	return m.In[i].E.V[stream.At(m.L[stream.Find(m.L, m.In[i].Stream)], m.Q.By)]
}

// counting are the entries of in that count.
func counting(l []stream.Stream, q query.Query, in []denote.Entry) []denote.Entry {
	return slices.DeleteFunc(in, func(x denote.Entry) bool { return !denote.Counts(l, q, x) })
}

// TestMeaning (P15.2, P15.3, P15.5): behind each entry, and each mark, it told just what is settled, and has as many runs as the document says.
func TestMeaning(t *testing.T) {
	d := trial.New(1)
	told, waits, strict := 0, 0, 0
	for range 4000 {
		l := trial.Streams()
		q := parsed(t, d.Query("q", []string{"A", "B", "C"}))
		in := counting(l, q, d.Entries(l, 9, true))
		if len(in) > 7 {
			in = in[:7]
		}
		all, _ := denote.All(l, q, in)
		m, e := machine.New(l, q, api.MaxRuns)
		if e != api.OK {
			t.Fatal(query.Put(q), e)
		}
		var got []denote.Match
		check := func(n int) {
			some, _ := denote.All(l, q, in[:n])
			settled := slices.DeleteFunc(some, func(x denote.Match) bool { return query.Waits(q) && x.At >= m.Now() })
			if !trial.Same(got, settled) || !trial.Same(got, all[:len(got)]) {
				t.Fatal(query.Put(q), in[:n], shown(got), shown(settled))
			}
			if want := oracle(l, q, in[:n], m.Now()); m.Runs() != want {
				t.Fatal(query.Put(q), in[:n], m.Now(), m.Runs(), want)
			}
		}
		for n, x := range in {
			if d.Roll(3) == 0 {
				more, e := m.Mark(m.Now() + int64(d.Roll(int(x.E.Time-m.Now())+1)))
				if got = append(got, more...); e != api.OK {
					t.Fatal(e)
				}
				check(n)
			}
			more, e := m.Take(x)
			if got = append(got, more...); e != api.OK || m.Now() != x.E.Time || m.Next() != n+1 {
				t.Fatal(e)
			}
			check(n + 1)
		}
		got = append(got, m.Close()...)
		if !trial.Same(got, all) || m.Runs() != 0 || m.Over() {
			t.Fatal(query.Put(q), in, shown(got), shown(all))
		}
		told += min(len(all), 1)
		if len(all) > 0 && query.Waits(q) {
			waits++
		}
		if len(all) > 0 && q.Strict {
			strict++
		}
	}
	if told < 1000 || waits < 100 || strict < 100 {
		t.Error("too few", told, waits, strict)
	}
}

// TestOverMeaning (P15.4, P15.5): whether it is over, and what was told by then, hangs on the entries alone.
func TestOverMeaning(t *testing.T) {
	d := trial.New(2)
	over, sent := 0, 0
	for range 3000 {
		l := trial.Streams()
		q := parsed(t, d.Query("q", []string{"A", "B"}))
		in := counting(l, q, d.Entries(l, 8, true))
		all, _ := denote.All(l, q, in)
		most := 1 + d.Roll(6)
		m, _ := machine.New(l, q, most)
		marked, _ := machine.New(l, q, most)
		var got, twin []denote.Match
		for n, x := range in {
			if d.Roll(2) == 0 {
				more, _ := marked.Mark(x.E.Time)
				twin = append(twin, more...)
			}
			was := m.Over()
			more, e := m.Take(x)
			also, f := marked.Take(x)
			got, twin = append(got, more...), append(twin, also...)
			if e != api.OK || f != api.OK || m.Over() != marked.Over() || m.Over() && !trial.Same(got, twin) {
				t.Fatal(query.Put(q), in, e, f)
			}
			if m.Over() != (was || oracle(l, q, in[:n+1], x.E.Time) > most) {
				t.Fatal(query.Put(q), in[:n+1], m.Over())
			}
			if m.Over() && !was {
				over++
				if len(got) > 0 {
					sent++
				}
				some, _ := denote.All(l, q, in[:n+1])
				if settled := slices.DeleteFunc(some, func(y denote.Match) bool { return y.At >= x.E.Time && (query.Waits(q) || last(y) == n) }); !trial.Same(got, settled) {
					t.Fatal(query.Put(q), in[:n+1], shown(got), shown(settled))
				}
			}
			if was && len(more)+m.Runs() > 0 {
				t.Fatal("told when over")
			}
		}
		got = append(got, m.Close()...)
		if len(got) > len(all) || !trial.Same(got, all[:len(got)]) || !m.Over() && len(got) != len(all) {
			t.Fatal(query.Put(q), in, shown(got), shown(all))
		}
	}
	if over < 500 || sent < 50 {
		t.Error("too few", over, sent)
	}
}

func last(m denote.Match) int {
	list := m.Parts[len(m.Parts)-1]
	return list[len(list)-1]
}

// TestShares (P3): what was taken, and what is told, may be turned by the caller.
func TestShares(t *testing.T) {
	m := made(t, "A a+ ; B b WITHIN 9 EMIT s: a.x + b.x", 99)
	x := entry("A1=1")
	m.Take(x)
	x.E.V[0].N = 50
	l, _ := m.Take(entry("B2=2"))
	if shown(l) != "0;1@2" || l[0].E.V[0].N != 3 {
		t.Error(l)
	}
	l[0].Parts[0][0], l[0].E.V[0].N = 9, 9
	l, _ = m.Take(entry("B3=3"))
	if shown(l) != "0;2@3" || l[0].E.V[0].N != 4 {
		t.Error(l)
	}
	w := made(t, "A a+ ; !B b WITHIN 9 EMIT s: a.x", 99)
	w.Take(entry("A1=1"))
	w.Take(entry("A20=2"))
	l = w.Close()
	if shown(l) != "1;@29" {
		t.Error(shown(l))
	}
}

// TestLong (P1): a long list in a strict query, each entry of which is taken.
func TestLong(t *testing.T) {
	m := made(t, "STRICT A a+[#a > 1 || a.x == 1] ; B b WITHIN 1000000", 1)
	m.Take(entry("A0=1"))
	for i := range 50000 {
		if _, e := m.Take(entry("A" + strconv.Itoa(i))); e != api.OK || m.Runs() != 1 {
			t.Fatal(i, e, m.Runs())
		}
	}
	if l, e := m.Take(entry("B60000")); e != api.OK || len(l) != 1 || len(l[0].Parts[0]) != 50001 {
		t.Error(len(l), e)
	}
}
