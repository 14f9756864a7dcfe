package drive_test

import (
	"math"
	"math/big"
	"slices"
	"strconv"
	"strings"
	"testing"

	"marshalling/api"
	"marshalling/denote"
	"marshalling/drive"
	"marshalling/engine"
	"marshalling/event"
	"marshalling/parse"
	"marshalling/query"
	"marshalling/stream"
	"marshalling/trial"
	"marshalling/value"
)

func parsed(t *testing.T, s string) query.Query {
	t.Helper()
	q, at, e := parse.Parse(s)
	if e != api.OK {
		t.Fatal(s, at, e)
	}
	return q
}

func all(t *testing.T, texts ...string) []query.Query {
	t.Helper()
	l := []query.Query{}
	for _, s := range texts {
		l = append(l, parsed(t, s))
	}
	return l
}

func made(t *testing.T, texts ...string) *engine.Engine {
	t.Helper()
	x := []stream.Field{{Name: "x", Kind: value.Int}}
	g, _ := engine.New(engine.Config{Streams: []stream.Stream{{Name: "A", Fields: x}, {Name: "B", Fields: x}}, Ring: 4, Sink: 4, Runs: 100})
	if _, at, e := g.Register(texts, 10); len(texts) > 0 && e != api.OK {
		t.Fatal(at, e)
	}
	return g
}

func offer(t *testing.T, g *engine.Engine, name string, now int64) {
	t.Helper()
	if e := g.Offer(name, event.Event{Time: now, V: []value.Value{{Kind: value.Int, N: now}}}); e != api.OK {
		t.Fatal(e)
	}
}

// shown tells which query told what, by the first index and At.
func shown(l []drive.Told) string {
	texts := []string{}
	for _, x := range l {
		texts = append(texts, x.Query+strconv.Itoa(x.M.Parts[0][0])+"@"+strconv.FormatInt(x.M.At, 10))
	}
	return strings.Join(texts, " ")
}

// TestDrain (P20.1): query by query, all that is held.
func TestDrain(t *testing.T) {
	if l := drive.Drain(made(t)); len(l) != 0 {
		t.Error(l)
	}
	g := made(t, "p = A a WITHIN 1", "q = A a WITHIN 1", "r = B a WITHIN 1")
	offer(t, g, "A", 1)
	offer(t, g, "A", 2)
	for {
		if _, ok := g.Tick(); !ok {
			break
		}
	}
	if got := shown(drive.Drain(g)); got != "p0@1 p1@2 q0@1 q1@2" {
		t.Error(got)
	}
	if l := drive.Drain(g); len(l) != 0 {
		t.Error(l)
	}
}

// TestRun (P20.1, P6): drains, ticks, and how many there were.
func TestRun(t *testing.T) {
	g := made(t, "p = A a WITHIN 1", "q = A a WITHIN 1")
	offer(t, g, "A", 1)
	offer(t, g, "A", 2)
	for _, most := range []int{0, -1, math.MinInt} {
		if l, n := drive.Run(g, most); len(l) != 0 || n != 0 {
			t.Error(most, l, n)
		}
	}
	l, n := drive.Run(g, 3)
	if n != 3 {
		t.Error(n)
	}
	more, m := drive.Run(g, math.MaxInt)
	if got := shown(append(l, more...)); got != "p0@1 q0@1 p1@2 q1@2" || n+m != 8 {
		t.Error(got, n, m)
	}
	offer(t, g, "A", 3)
	for len(g.Ready()) > 0 {
		g.Tick()
	}
	// What is held is drained without a tick, too.
	if l, n := drive.Run(g, 0); shown(l) != "p2@3 q2@3" || n != 0 {
		t.Error(shown(l), n)
	}
	// The sink is drained in between: more come through than it holds.
	for i := range int64(4) {
		offer(t, g, "A", 10+i)
	}
	if l, _ := drive.Run(g, 1000); len(l) != 8 {
		t.Error(len(l))
	}
	if l, n := drive.Run(made(t), 5); len(l) != 0 || n != 0 {
		t.Error(l, n)
	}
}

// TestOf (P20.1): of one query alone, in order.
func TestOf(t *testing.T) {
	l := []drive.Told{{"p", denote.Match{At: 1}}, {"q", denote.Match{At: 2}}, {"p", denote.Match{At: 3}}, {"", denote.Match{At: 4}}}
	for name, want := range map[string][]int64{"p": {1, 3}, "q": {2}, "": {4}, "r": nil} {
		got := []int64{}
		for _, m := range drive.Of(l, name) {
			got = append(got, m.At)
		}
		if !slices.Equal(got, want) {
			t.Error(name, got)
		}
	}
	if len(drive.Of(nil, "p")) != 0 {
		t.Error("nothing")
	}
}

// TestBound (P20.2): works and sums, where nothing is great.
func TestBound(t *testing.T) {
	a, b, w := "q = a x WITHIN 1", "r = q x ; a y WITHIN 1", "s = r x ; !q y WITHIN 1"
	for i, c := range []struct {
		qs   []query.Query
		l    []drive.Count
		runs int
		want int
	}{
		{nil, nil, 5, 0}, {all(t, a), []drive.Count{{"a", 3}}, 1, 21}, {all(t, a), nil, 1, 3}, {all(t, a), []drive.Count{{"a", -3}}, 1, 3}, {all(t, a), []drive.Count{{"b", 3}}, 1, 3}, {all(t, a), []drive.Count{{"a", 3}, {"a", 9}}, 1, 21}, {all(t, a), []drive.Count{{"a", -3}, {"a", 9}}, 1, 3},
		{all(t, a), []drive.Count{{"a", 3}}, 0, 18}, {all(t, a), []drive.Count{{"a", 3}}, -7, 18}, {all(t, a), []drive.Count{{"a", 3}}, math.MinInt, 18}, {all(t, a), []drive.Count{{"a", 3}, {"q", 1000}}, 1, 21},
		// q: C 3, work 13, 13+6+1+1; r: C 16, work 66, 66+32+2+1.
		{all(t, a, b), []drive.Count{{"a", 3}}, 1, 21 + 101}, {all(t, b, a), []drive.Count{{"a", 3}}, 1, 21 + 101},
		// s: C 79, work 318, 318+158+2+1.
		{all(t, w, b, a), []drive.Count{{"a", 3}}, 1, 21 + 101 + 479},
		{all(t, a, a), []drive.Count{{"a", 3}}, 1, 0}, {all(t, "q = q x WITHIN 1"), nil, 1, 0}, {all(t, a, "r = s x WITHIN 1", "s = r x WITHIN 1"), nil, 1, 0},
		{[]query.Query{{}}, nil, 1, 1}, {[]query.Query{{Parts: []query.Part{{Streams: []string{"", "a"}}}}}, nil, 1, 0}, {[]query.Query{{Name: "q", Parts: []query.Part{{Streams: []string{"", "a"}}}}}, []drive.Count{{"", 2}, {"a", 1}}, 1, 14 + 6 + 3},
	} {
		if got := drive.Bound(c.qs, c.l, c.runs); got != c.want {
			t.Error(i, got, c.want)
		}
	}
}

// exact tells the bound of a chain of queries, each of which reads the one ahead of it, as an exact number, 2^62 at most.
func exact(n, chain, runs int) *big.Int {
	one, sum, work := big.NewInt(1), new(big.Int), big.NewInt(int64(max(n, 0)))
	each := new(big.Int).Add(big.NewInt(int64(max(runs, 0))), big.NewInt(3))
	for range chain {
		c := work
		work = new(big.Int).Add(new(big.Int).Mul(c, each), one)
		sum.Add(sum, work).Add(sum, c).Add(sum, c).Add(sum, one).Add(sum, one)
	}
	if most := new(big.Int).Lsh(one, 62); sum.Cmp(most) > 0 {
		return most
	}
	return sum
}

// TestGreat (P20.2, P6): what is above 2^62 is 2^62; nothing wraps.
func TestGreat(t *testing.T) {
	texts := []string{"q0 = a x WITHIN 1"}
	for i := range 40 {
		texts = append(texts, "q"+strconv.Itoa(i+1)+" = q"+strconv.Itoa(i)+" x WITHIN 1")
	}
	qs := all(t, texts...)
	for _, n := range []int{0, 1, 5, 1 << 31, 1 << 60, 1<<62 - 1, 1 << 62, 1<<62 + 1, math.MaxInt} {
		for _, runs := range []int{0, 1, 1024, 1 << 31, 1 << 61, 1<<62 - 3, 1<<62 - 2, 1 << 62, math.MaxInt - 2, math.MaxInt} {
			for _, chain := range []int{1, 2, 3, 6, 41} {
				got := drive.Bound(qs[:chain], []drive.Count{{"a", n}}, runs)
				if want := exact(n, chain, runs); want.Int64() != int64(got) {
					t.Error(n, runs, chain, got, want)
				}
			}
		}
	}
	two := all(t, "q = a x ; b y WITHIN 1")
	if got := drive.Bound(two, []drive.Count{{"a", math.MaxInt}, {"b", math.MaxInt}}, math.MaxInt); got != 1<<62 {
		t.Error(got)
	}
}

// TestEnough (P20.3): within Bound ticks all is quiet, whatever the queries, the rooms, and what is offered.
func TestEnough(t *testing.T) {
	accepted := 0
	for seed := range 300 {
		d := trial.New(seed)
		l := trial.Streams()
		texts := d.Queries(l)
		runs := []int{1, 3, 20, 1024}[d.Roll(4)]
		g, _ := engine.New(engine.Config{Streams: l, Ring: 1 + d.Roll(3), Sink: 1 + d.Roll(3), Runs: runs})
		if _, at, e := g.Register(texts, 1+d.Roll(30)); e != api.OK {
			t.Fatal(texts, at, e)
		}
		bound := []drive.Count{}
		for _, s := range l {
			bound = append(bound, drive.Count{Stream: s.Name})
		}
		ticks, now := 0, int64(0)
		for range 30 {
			i := d.Roll(len(l))
			now += int64(d.Roll(3))
			isMark, e := d.Roll(4) == 0, api.OK
			if isMark {
				e = g.Mark(l[i].Name, now+1)
			} else {
				e = g.Offer(l[i].Name, d.Event(l[i], now))
			}
			if e == api.OK {
				bound[i].N++
				accepted++
			}
			_, n := drive.Run(g, d.Roll(5))
			ticks += n
		}
		for _, s := range l {
			g.Close(s.Name)
		}
		most := drive.Bound(all(t, texts...), bound, runs)
		_, n := drive.Run(g, most-ticks)
		if !g.Quiet() || ticks+n > most {
			t.Fatal(texts, bound, ticks+n, most)
		}
	}
	if accepted < 3000 {
		t.Error("too few", accepted)
	}
}
