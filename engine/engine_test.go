package engine_test

import (
	"math"
	"slices"
	"strconv"
	"strings"
	"testing"

	"marshalling/api"
	"marshalling/denote"
	"marshalling/engine"
	"marshalling/event"
	"marshalling/parse"
	"marshalling/query"
	"marshalling/stream"
	"marshalling/trial"
	"marshalling/value"
)

// streams are A, B and C of an x.
func streams() []stream.Stream {
	x := []stream.Field{{Name: "x", Kind: value.Int}}
	return []stream.Stream{{Name: "A", Fields: x}, {Name: "B", Fields: x}, {Name: "C", Fields: x}}
}

func made(t *testing.T, ring, sink, runs int, texts ...string) *engine.Engine {
	t.Helper()
	g, e := engine.New(engine.Config{streams(), ring, sink, runs})
	if g == nil || e != api.OK {
		t.Fatal(e)
	}
	for _, s := range texts {
		if which, at, e := g.Register([]string{s}, 10); which != 0 || at != 0 || e != api.OK {
			t.Fatal(s, at, e)
		}
	}
	return g
}

func at(now int64, n ...int64) event.Event {
	e := event.Event{Time: now}
	for _, n := range n {
		e.V = append(e.V, value.Value{Kind: value.Int, N: n})
	}
	return e
}

func shown(l []denote.Match) string {
	texts := []string{}
	for _, m := range l {
		parts := []string{}
		for _, p := range m.Parts {
			s := []string{}
			for _, i := range p {
				s = append(s, strconv.Itoa(i))
			}
			parts = append(parts, strings.Join(s, ","))
		}
		texts = append(texts, strings.Join(parts, ";")+"@"+strconv.FormatInt(m.At, 10))
	}
	return strings.Join(texts, " ")
}

// run ticks as long as it can, and tells how often.
func run(g *engine.Engine) int {
	n := 0
	for {
		if _, ok := g.Tick(); !ok {
			return n
		}
		n++
	}
}

// TestNew (P19.1, P2): streams first, then numbers.
func TestNew(t *testing.T) {
	for i, c := range []struct {
		c    engine.Config
		want api.Errno
	}{
		{engine.Config{[]stream.Stream{{Name: "1"}}, 0, 0, 0}, api.ErrName}, {engine.Config{append(streams(), streams()[0]), 1, 1, 1}, api.ErrTwice}, {engine.Config{make([]stream.Stream, 9), 1, 1, 1}, api.ErrLimit}, {engine.Config{[]stream.Stream{{Name: "a", Fields: []stream.Field{{Name: "x"}}}}, 1, 1, 1}, api.ErrType},
		{engine.Config{nil, 0, 1, 1}, api.ErrArg}, {engine.Config{nil, 257, 1, 1}, api.ErrArg}, {engine.Config{nil, -1, 1, 1}, api.ErrArg}, {engine.Config{nil, 1, 0, 1}, api.ErrArg}, {engine.Config{nil, 1, 257, 1}, api.ErrArg}, {engine.Config{nil, 1, 1, 0}, api.ErrArg}, {engine.Config{nil, 1, 1, 1025}, api.ErrArg}, {engine.Config{nil, math.MaxInt, math.MinInt, 1}, api.ErrArg},
		{engine.Config{nil, 1, 1, 1}, api.OK}, {engine.Config{streams(), 256, 256, 1024}, api.OK},
	} {
		if g, e := engine.New(c.c); e != c.want || (g != nil) != (e == api.OK) {
			t.Error(i, e)
		}
	}
	g := made(t, 5, 1, 1)
	if n, ok := g.Free("A"); n != 5 || !ok || len(g.Names()) != 0 || len(g.Ready()) != 0 || g.Quiet() {
		t.Error(n, ok)
	}
	if name, ok := g.Tick(); name != "" || ok {
		t.Error(name)
	}
	if none, _ := engine.New(engine.Config{nil, 1, 1, 1}); !none.Quiet() {
		t.Error("nothing is quiet")
	}
	own := streams()
	h, _ := engine.New(engine.Config{own, 5, 1, 1})
	own[0].Name = "Z"
	if h.Offer("A", at(1, 1)) != api.OK || h.Offer("Z", at(1, 1)) != api.ErrNone {
		t.Error("turned")
	}
}

// TestRegisterWrong (P19.2, P2): each error, with its text and place; which comes first; nothing is turned.
func TestRegisterWrong(t *testing.T) {
	g := made(t, 4, 4, 4, "p = A a WITHIN 1 EMIT x: a.x", "r = A a WITHIN 1 EMIT s: 'a'")
	many := func(n int) []string { return make([]string, n) }
	for i, c := range []struct {
		texts     []string
		quantum   int
		which, at int
		want      api.Errno
	}{
		{nil, 1, 0, 0, api.ErrArg}, {[]string{"$"}, 0, 0, 0, api.ErrArg}, {[]string{"$"}, 1001, 0, 0, api.ErrArg}, {[]string{"q = A a WITHIN 1"}, -1, 0, 0, api.ErrArg}, {[]string{"q = A a WITHIN 1"}, math.MinInt, 0, 0, api.ErrArg}, {many(9), 0, 0, 0, api.ErrArg},
		{many(7), 1, 0, 0, api.ErrFull}, {many(6), 1, 0, 0, api.ErrParse}, {[]string{"q = A a WITHIN 1", "A = $"}, 1, 1, 4, api.ErrLex}, {[]string{"q = A a WITHIN 1", "A = B"}, 1, 1, 5, api.ErrParse}, {[]string{"A = A a WITHIN 1", "q q"}, 1, 1, 2, api.ErrParse}, {[]string{strings.Repeat(" ", 2049)}, 1, 0, 2048, api.ErrLimit},
		{[]string{"A = A a WITHIN 1"}, 1, 0, 0, api.ErrTwice}, {[]string{"p = A a WITHIN 1"}, 1, 0, 0, api.ErrTwice}, {[]string{"q = Z a WITHIN 1", "q = A a WITHIN 1"}, 1, 1, 0, api.ErrTwice}, {[]string{"q = q a WITHIN 1", "A = A a WITHIN 1"}, 1, 1, 0, api.ErrTwice},
		{[]string{"q = q a WITHIN 1"}, 1, 0, 0, api.ErrCycle}, {[]string{"x = Z a WITHIN 1", "a = b a WITHIN 1", "b = A z ; !a a WITHIN 1"}, 1, 1, 0, api.ErrCycle}, {[]string{"c = a a WITHIN 1", "a = b a WITHIN 1", "b = a a WITHIN 1"}, 1, 1, 0, api.ErrCycle},
		{[]string{"q = Z a WITHIN 1"}, 1, 0, 0, api.ErrName}, {[]string{"q = A a[1] WITHIN 1"}, 1, 0, 0, api.ErrType}, {[]string{"u = v a[1] WITHIN 1", "v = Z a WITHIN 1"}, 1, 1, 0, api.ErrName}, {[]string{"u = v a[1] WITHIN 1", "v = A a WITHIN 1"}, 1, 0, 0, api.ErrType}, {[]string{"u = A a[1] WITHIN 1", "v = Z a WITHIN 1"}, 1, 0, 0, api.ErrType},
		{[]string{"q = p a[a.s == 'a'] WITHIN 1"}, 1, 0, 0, api.ErrName}, {[]string{"q = r a[a.s == 1] WITHIN 1"}, 1, 0, 0, api.ErrType}, {[]string{"q = v a[a.y] WITHIN 1", "v = A a WITHIN 1 EMIT y: a.x"}, 1, 0, 0, api.ErrType}, {[]string{"q = p | r a[a.x > 1] WITHIN 1"}, 1, 0, 0, api.ErrName},
	} {
		if which, at, e := g.Register(c.texts, c.quantum); which != c.which || at != c.at || e != c.want {
			t.Error(i, which, at, e)
		}
		if !slices.Equal(g.Names(), []string{"p", "r"}) {
			t.Fatal(i, g.Names())
		}
		if _, ok := g.Free("q"); ok {
			t.Error(i, "a ring is left")
		}
	}
	bare, _ := engine.New(engine.Config{nil, 1, 1, 1})
	if which, at, e := bare.Register([]string{"q = A a WITHIN 1"}, 1); which != 0 || at != 0 || e != api.ErrName {
		t.Error(which, at, e)
	}
}

// TestRegister (P19.2): queries in Order, by numbers; what they derive; up to MaxQueries.
func TestRegister(t *testing.T) {
	g := made(t, 4, 4, 4)
	texts := []string{"d = c x ; b y WITHIN 1", "c = b x WITHIN 1 EMIT k: 'k', n: x.n", "a = A x WITHIN 1", "b = A x WITHIN 1 EMIT n: x.x"}
	if which, at, e := g.Register(texts, 7); which != 0 || at != 0 || e != api.OK || !slices.Equal(g.Names(), []string{"a", "b", "c", "d"}) {
		t.Error(which, at, e, g.Names())
	}
	for name, want := range map[string]string{"a": "a()", "b": "b(n:int)", "c": "c(k:text,n:int)", "d": "d()"} {
		for range 2 {
			s, ok := g.Derived(name)
			if stream.Put(s) != want || !ok {
				t.Error(stream.Put(s))
			}
			s.Fields = append(s.Fields[:0], stream.Field{})
		}
	}
	for name, rank := range map[string]int{"a": 0, "b": 0, "c": 1, "d": 2} {
		if s, ok := g.Status(name); !ok || s != (engine.Status{Name: name, Rank: rank, Quantum: 7}) {
			t.Error(s)
		}
		if n, ok := g.Free(name); n != 4 || !ok {
			t.Error(n)
		}
	}
	g.Names()[0] = "turned"
	if _, _, e := g.Register([]string{"e = d x WITHIN 1", "f = A x WITHIN 1", "g = B x WITHIN 1", "h = C x WITHIN 1"}, 1); e != api.OK || len(g.Names()) != 8 || g.Names()[0] != "a" {
		t.Error(e, g.Names())
	}
	if s, _ := made(t, 1, 1, 1).Status("a"); s != (engine.Status{}) {
		t.Error(s)
	}
	if _, _, e := made(t, 1, 1, 1).Register([]string{"i = A x WITHIN 1"}, 1000); e != api.OK {
		t.Error(e)
	}
	if _, _, e := g.Register([]string{"i = A x WITHIN 1"}, 1); e != api.ErrFull {
		t.Error(e)
	}
}

// TestLimit (P19.2): the streams of a query's Inputs are at most MaxStreams.
func TestLimit(t *testing.T) {
	l := []stream.Stream{}
	for i := range 8 {
		l = append(l, stream.Stream{Name: "S" + strconv.Itoa(i)})
	}
	g, _ := engine.New(engine.Config{l, 1, 1, 1})
	eight := "q = S0 | S1 | S2 | S3 a ; S4 | S5 | S6 | S7 b WITHIN 1"
	if _, _, e := g.Register([]string{eight}, 1); e != api.OK {
		t.Error(e)
	}
	if which, at, e := g.Register([]string{"p = S0 a WITHIN 1", "r = S0 | S1 | S2 | S3 a ; S4 | S5 | S6 | S7 b ; q c WITHIN 1"}, 1); which != 1 || at != 0 || e != api.ErrLimit {
		t.Error(which, at, e)
	}
	// Of nine there are eight: the ninth is no name.
	if which, at, e := g.Register([]string{"r = S0 | S1 | S2 | S3 a ; S4 | S5 | S6 | S7 b ; Z c WITHIN 1"}, 1); which != 0 || at != 0 || e != api.ErrName {
		t.Error(which, at, e)
	}
}

// TestSources (P19.3): what is offered, marked and closed, and what is refused.
func TestSources(t *testing.T) {
	g := made(t, 2, 4, 4, "q = A a WITHIN 1")
	offer := func(name string, e event.Event, want api.Errno, free int) {
		t.Helper()
		if got := g.Offer(name, e); got != want {
			t.Error(name, e, got)
		}
		if n, _ := g.Free("A"); n != free {
			t.Error(name, e, n)
		}
	}
	mark := func(name string, now int64, want api.Errno) {
		t.Helper()
		if got := g.Mark(name, now); got != want {
			t.Error(name, now, got)
		}
	}
	for _, name := range []string{"Z", "q", ""} {
		offer(name, at(1, 1), api.ErrNone, 2)
		mark(name, -1, api.ErrNone)
		if g.Close(name) != api.ErrNone {
			t.Error(name)
		}
	}
	offer("A", at(1), api.ErrForm, 2)
	offer("A", at(-1, 1), api.ErrForm, 2)
	offer("A", at(api.MaxTime+1, 1), api.ErrForm, 2)
	offer("A", at(api.MaxOffer+1, 1), api.ErrForm, 2)
	offer("A", event.Event{Time: api.MaxOffer + 1, V: []value.Value{{Kind: value.Bool}}}, api.ErrType, 2)
	mark("A", -1, api.ErrForm)
	mark("A", api.MaxOffer+1, api.ErrForm)
	mark("A", 0, api.ErrLate)
	offer("A", at(3, 1), api.OK, 1)
	offer("A", at(3, 1), api.ErrLate, 1)
	mark("A", 4, api.ErrLate)
	mark("A", 5, api.OK)
	offer("A", at(4, 1), api.ErrLate, 0)
	offer("A", at(5, 1), api.ErrFull, 0)
	mark("A", 6, api.ErrFull)
	offer("B", at(api.MaxOffer, 1), api.OK, 0)
	mark("B", api.MaxOffer, api.ErrLate)
	mark("C", api.MaxOffer, api.OK)
	if g.Close("A") != api.OK || g.Close("A") != api.ErrClosed {
		t.Error("close")
	}
	offer("A", at(9, 1), api.ErrClosed, 0)
	mark("A", 9, api.ErrClosed)
	mark("A", -1, api.ErrForm)
	offer("A", at(9), api.ErrForm, 0)
}

// TestUnknown (P19.4 to P19.6, P2): of a name that is no query's there is nothing.
func TestUnknown(t *testing.T) {
	g := made(t, 2, 4, 4, "q = A a WITHIN 1")
	for _, name := range []string{"A", "Z", ""} {
		l, e := g.Drain(name, 5)
		s, ok := g.Status(name)
		d, also := g.Derived(name)
		if g.Unregister(name) != api.ErrNone || g.Pause(name) != api.ErrNone || g.Resume(name) != api.ErrNone || g.Step(name) != api.ErrNone || len(l) != 0 || e != api.ErrNone || s != (engine.Status{}) || ok || also || !stream.Same(d, stream.Stream{}) {
			t.Error(name)
		}
		if n, ok := g.Free(name); name != "A" && (n != 0 || ok) {
			t.Error(name, n)
		}
	}
}

// TestUnregister (P19.4): not while others read it; then it is no more, and its number is not given again.
func TestUnregister(t *testing.T) {
	g := made(t, 2, 4, 4, "p = A a WITHIN 1 EMIT x: a.x", "q = p a WITHIN 1", "r = A a ; !p b WITHIN 1")
	g.Offer("A", at(1, 1))
	if g.Unregister("p") != api.ErrBusy || g.Unregister("q") != api.OK || g.Unregister("q") != api.ErrNone || g.Unregister("p") != api.ErrBusy || !slices.Equal(g.Names(), []string{"p", "r"}) {
		t.Error(g.Names())
	}
	if _, ok := g.Free("q"); ok {
		t.Error("its ring")
	}
	if g.Unregister("r") != api.OK || g.Unregister("p") != api.OK || len(g.Names()) != 0 {
		t.Error(g.Names())
	}
	// Nobody reads A any more.
	if n, _ := g.Free("A"); n != 2 {
		t.Error(n)
	}
	if _, ok := g.Tick(); ok {
		t.Error("tick")
	}
	// By numbers: q, which is registered again, stands behind s.
	if _, _, e := g.Register([]string{"s = A a WITHIN 1", "q = A a WITHIN 1"}, 3); e != api.OK || !slices.Equal(g.Names(), []string{"s", "q"}) {
		t.Error(e, g.Names())
	}
	g.Offer("A", at(2, 1))
	if run(g) == 0 {
		t.Error("nothing was done")
	}
	if l, e := g.Drain("q", 9); shown(l) != "0@2" || e != api.OK {
		t.Error(shown(l), e)
	}
}

// TestPause (P19.4, P19.5): what is paused makes no steps; errors of states.
func TestPause(t *testing.T) {
	g := made(t, 4, 4, 4, "p = A a WITHIN 1 EMIT x: a.x", "q = A a WITHIN 1")
	if g.Resume("p") != api.ErrState || g.Step("p") != api.ErrState || len(g.Ready()) != 0 {
		t.Error("at first")
	}
	g.Offer("A", at(1, 1))
	if !slices.Equal(g.Ready(), []string{"p", "q"}) || g.Pause("p") != api.OK || g.Pause("p") != api.ErrState || g.Step("p") != api.ErrState || !slices.Equal(g.Ready(), []string{"q"}) {
		t.Error(g.Ready())
	}
	if s, _ := g.Status("p"); !s.Paused || s.Waiting != 1 {
		t.Error(s)
	}
	for range 20 {
		if name, ok := g.Tick(); ok && name != "q" {
			t.Error(name)
		}
	}
	if g.Resume("p") != api.OK || g.Resume("p") != api.ErrState || g.Step("p") != api.OK || !slices.Equal(g.Ready(), []string{"p"}) {
		t.Error(g.Ready())
	}
	if s, _ := g.Status("p"); s.Paused || s.Waiting != 0 || s.Staged != 1 {
		t.Error(s)
	}
}

// TestTurns (P19.5, P19.6): by turns, as costs and quantums are.
func TestTurns(t *testing.T) {
	g := made(t, 8, 8, 8)
	if _, _, e := g.Register([]string{"p = A a WITHIN 1", "q = A a WITHIN 1"}, 6); e != api.OK {
		t.Fatal(e)
	}
	for i := range int64(3) {
		g.Offer("A", at(i, 1))
	}
	told := []string{}
	for {
		name, ok := g.Tick()
		if !ok {
			break
		}
		s, _ := g.Status(name)
		told = append(told, name+strconv.Itoa(s.Deficit))
	}
	// To read an event costs 6, what leaves the stage 1.
	if got := strings.Join(told, " "); got != "p0 q0 p5 q5 p5 p4 q5 q4 p4 p3 q4 q3" {
		t.Error(got)
	}
	if s, _ := g.Status("p"); s.Deficit != 0 || s.Held != 3 || s.Quantum != 6 {
		t.Error(s)
	}
}

// TestStatus (P19.6): ranks, rooms, what is over, what is done, and what is quiet.
func TestStatus(t *testing.T) {
	g := made(t, 2, 9, 2, "p = A a ; A b WITHIN 9 EMIT x: a.x", "q = p a WITHIN 9")
	for i := range int64(2) {
		g.Offer("A", at(i, 1))
	}
	run(g)
	if s, _ := g.Status("p"); s != (engine.Status{Name: "p", Quantum: 10, Runs: 2, Held: 1}) {
		t.Error(s)
	}
	if s, _ := g.Status("q"); s != (engine.Status{Name: "q", Rank: 1, Quantum: 10, Held: 1}) {
		t.Error(s)
	}
	g.Offer("A", at(5, 1))
	run(g)
	if s, _ := g.Status("p"); !s.Over || s.Runs != 0 || s.Held != 1 || s.Done {
		t.Error(s)
	}
	g.Close("A")
	g.Close("B")
	run(g)
	if g.Quiet() {
		t.Error("C is open, and something is held")
	}
	g.Close("C")
	for _, name := range []string{"p", "q"} {
		if s, _ := g.Status(name); !s.Done || g.Quiet() {
			t.Error(s)
		}
		if l, e := g.Drain(name, 9); len(l) != 1 || e != api.OK {
			t.Error(name, l, e)
		}
	}
	if !g.Quiet() || g.Pause("p") != api.OK || !g.Quiet() {
		t.Error("quiet")
	}
}

// TestLate (P19.2): a query that is registered later reads what comes later.
func TestLate(t *testing.T) {
	g := made(t, 4, 4, 4, "p = A a WITHIN 9 EMIT x: a.x")
	g.Offer("A", at(1, 1))
	run(g)
	if _, _, e := g.Register([]string{"q = A a ; p b WITHIN 9"}, 1); e != api.OK {
		t.Error(e)
	}
	g.Offer("A", at(2, 1))
	g.Offer("A", at(3, 1))
	for _, name := range []string{"A", "B", "C"} {
		g.Close(name)
	}
	if _, _, e := g.Register([]string{"r = A a WITHIN 9"}, 1); e != api.OK {
		t.Error(e)
	}
	run(g)
	for name, want := range map[string]string{"p": "0@1 1@2 2@3", "q": "0;1@2 0;3@3 2;3@3", "r": ""} {
		if l, _ := g.Drain(name, 9); shown(l) != want {
			t.Error(name, shown(l))
		}
	}
	if !g.Quiet() {
		t.Error("quiet")
	}
}

// player throws what is done to an engine, and keeps what was accepted, and what was drained.
type player struct {
	*engine.Engine
	d       *trial.Dice
	l       []stream.Stream
	ring    int
	sink    int
	given   map[string][]event.Event
	drained map[string][]denote.Match
}

// turn does one thing; offers, while they may be.
func (p *player) turn(t *testing.T, offers bool) {
	t.Helper()
	names := p.Names()
	name, s := names[p.d.Roll(len(names))], p.l[p.d.Roll(len(p.l))]
	now := int64(0)
	if l := p.given[s.Name]; len(l) > 0 {
		now = l[len(l)-1].Time + 1
	}
	switch what := p.d.Roll(12); {
	case what < 2 && offers:
		e := p.d.Event(s, now+int64(p.d.Roll(3)))
		if p.Offer(s.Name, e) == api.OK {
			p.given[s.Name] = append(p.given[s.Name], e)
		}
	case what == 2 && offers:
		p.Mark(s.Name, now+int64(p.d.Roll(2)))
	case what == 3 && offers:
		p.Pause(name)
	case what == 4:
		p.Resume(name)
	case what < 7:
		p.drain(name)
	case what < 9:
		ready := slices.Contains(p.Ready(), name)
		if e := p.Step(name); (e == api.OK) != ready {
			t.Fatal(e)
		}
	default:
		p.Tick()
	}
	for _, name := range append(names, "A", "B", "C") {
		if free, ok := p.Free(name); !ok || free < 0 || free > p.ring {
			t.Fatal(name, free)
		}
		if s, ok := p.Status(name); ok && s.Held > p.sink {
			t.Fatal(name, s)
		}
	}
}

func (p *player) drain(name string) {
	l, _ := p.Drain(name, 1+p.d.Roll(5))
	p.drained[name] = append(p.drained[name], l...)
}

// TestPlays (P19.7, T1 to T4): whatever is done, what is drained is the beginning of what is meant; at the end it is all of it.
func TestPlays(t *testing.T) {
	told := 0
	for seed := range 250 {
		d := trial.New(seed)
		l := trial.Streams()
		texts := d.Queries(l)
		p := &player{d: d, l: l, ring: 1 + d.Roll(3), sink: 1 + d.Roll(3), given: map[string][]event.Event{}, drained: map[string][]denote.Match{}}
		g, e := engine.New(engine.Config{l, p.ring, p.sink, api.MaxRuns})
		if e != api.OK {
			t.Fatal(e)
		}
		p.Engine = g
		if _, at, e := g.Register(texts, 1+d.Roll(30)); e != api.OK {
			t.Fatal(texts, at, e)
		}
		for range 250 {
			p.turn(t, true)
		}
		for _, s := range l {
			g.Close(s.Name)
		}
		for n := 0; !g.Quiet(); n++ {
			if seed%2 == 0 {
				p.tick(t)
			} else {
				p.turn(t, false)
			}
			if n > 100000 {
				t.Fatal("no end", texts)
			}
		}
		told += check(t, texts, p)
		if _, ok := g.Tick(); ok {
			t.Fatal("quiet, and ticks")
		}
	}
	if told < 100 {
		t.Error("too few", told)
	}
}

// tick drains all, and ticks: where nothing is paused there is a step, till all is quiet.
func (p *player) tick(t *testing.T) {
	t.Helper()
	for _, name := range p.Names() {
		p.Resume(name)
		l, _ := p.Drain(name, math.MaxInt)
		p.drained[name] = append(p.drained[name], l...)
	}
	quiet := p.Quiet()
	if _, ok := p.Tick(); ok == quiet {
		t.Fatal("tick", ok, quiet)
	}
}

// check holds what was drained against what is meant, and tells how many queries told anything.
func check(t *testing.T, texts []string, p *player) int {
	t.Helper()
	var qs []query.Query
	for _, s := range texts {
		q, _, _ := parse.Parse(s)
		qs = append(qs, q)
	}
	told := 0
	after := map[string]bool{} // whether a query is over, or comes of one that is
	meant := trial.Together(p.l, p.given, qs)
	for _, q := range qs {
		s, _ := p.Status(q.Name)
		got, want := p.drained[q.Name], meant[q.Name]
		told += min(1, len(got))
		if slices.ContainsFunc(query.Inputs(q), func(name string) bool { return after[name] }) {
			after[q.Name] = true
			continue
		}
		after[q.Name] = s.Over
		if len(got) > len(want) || !trial.Same(got, want[:len(got)]) || !s.Over && len(got) != len(want) {
			t.Fatal(texts, q.Name, shown(got), shown(want))
		}
	}
	return told
}
