package whole

import (
	"fmt"
	"math"
	"slices"
	"strings"
	"testing"

	"marshalling/api"
	"marshalling/check"
	"marshalling/denote"
	"marshalling/drive"
	"marshalling/engine"
	"marshalling/event"
	"marshalling/lex"
	"marshalling/machine"
	"marshalling/parse"
	"marshalling/query"
	"marshalling/stream"
	"marshalling/total"
	"marshalling/trial"
)

// scene is what a play is of: queries, and events of each source.
type scene struct {
	l      []stream.Stream
	texts  []string
	qs     []query.Query
	events map[string][]event.Event
}

func newScene(t *testing.T, d *trial.Dice) scene {
	t.Helper()
	s := scene{l: trial.Streams(), events: map[string][]event.Event{}}
	s.texts = d.Queries(s.l)
	for _, text := range s.texts {
		q, at, e := parse.Parse(text)
		if e != api.OK {
			t.Fatal(text, at, e)
		}
		s.qs = append(s.qs, q)
	}
	for _, x := range s.l {
		now := int64(d.Roll(3))
		for range d.Roll(7) {
			s.events[x.Name] = append(s.events[x.Name], d.Event(x, now))
			now += int64(1 + d.Roll(3))
		}
	}
	return s
}

// meaning tells what the queries mean of what was given.
func (s scene) meaning(t *testing.T, given map[string][]event.Event) map[string][]denote.Match {
	t.Helper()
	var sources []total.Source
	for _, x := range s.l {
		sources = append(sources, total.Source{S: x, L: given[x.Name]})
	}
	results, e := total.Of(sources, s.qs)
	if e != api.OK {
		t.Fatal(e)
	}
	told := map[string][]denote.Match{}
	for i, q := range s.qs {
		told[q.Name] = results[i].L
	}
	return told
}

// play is one way to play a scene.
type play struct {
	scene
	*engine.Engine
	t       *testing.T
	d       *trial.Dice
	c       engine.Config
	given   map[string][]event.Event
	drained map[string][]denote.Match
	items   map[string]int
	ticks   int
	wasOver map[string]bool
}

func newPlay(t *testing.T, s scene, d *trial.Dice, runs int) *play {
	t.Helper()
	c := engine.Config{Streams: s.l, Ring: 1 + d.Roll(4), Sink: 1 + d.Roll(4), Runs: runs}
	g, e := engine.New(c)
	if e != api.OK {
		t.Fatal(e)
	}
	if which, at, e := g.Register(s.texts, 1+d.Roll(40)); e != api.OK {
		t.Fatal(s.texts, which, at, e)
	}
	return &play{s, g, t, d, c, map[string][]event.Event{}, map[string][]denote.Match{}, map[string]int{}, 0, map[string]bool{}}
}

// feed offers the next event of a source, or a mark, or something that is refused.
func (p *play) feed() {
	s := p.l[p.d.Roll(len(p.l))]
	done, all := len(p.given[s.Name]), p.events[s.Name]
	if done == len(all) {
		p.Close(s.Name) // what is open, and silent, may keep all others waiting
		return
	}
	e := api.OK
	switch p.d.Roll(6) {
	case 0:
		e = p.Mark(s.Name, all[done].Time-int64(p.d.Roll(2)))
	case 1:
		p.refused(s.Name)
		return
	default:
		e = p.Offer(s.Name, all[done])
		if e == api.OK {
			p.given[s.Name] = append(p.given[s.Name], all[done])
		}
	}
	if e == api.OK {
		p.items[s.Name]++
	}
}

// refused tries what must turn nothing.
func (p *play) refused(name string) {
	before := p.state()
	q := p.qs[p.d.Roll(len(p.qs))].Name
	_, _, e := p.Register([]string{"z = z a WITHIN 1", "$"}, 5)
	errors := []api.Errno{
		e, p.Offer(name, event.Event{Time: 5}), p.Offer(q, event.Event{}), p.Mark(name, -1), p.Mark(q, 5), p.Close(q), p.Step(name), p.Pause(name), p.Resume(name), p.Unregister(name),
	}
	if slices.Contains(errors, api.OK) || p.state() != before {
		p.t.Fatal("turned", errors)
	}
}

// state tells all that an engine shows of itself.
func (p *play) state() string {
	text := fmt.Sprint(p.Names(), p.Ready(), p.Quiet())
	for _, name := range append(p.Names(), "A", "B", "C") {
		s, _ := p.Status(name)
		n, _ := p.Free(name)
		text += fmt.Sprint(s, n)
	}
	return text
}

// turn does anything that is no feeding.
func (p *play) turn() {
	name := p.qs[p.d.Roll(len(p.qs))].Name
	switch p.d.Roll(8) {
	case 0:
		p.Pause(name)
	case 1, 2:
		p.Resume(name)
	case 3:
		p.drain(name, 1+p.d.Roll(3))
	case 4:
		p.Step(name)
	default:
		p.Tick()
	}
	p.bounded()
}

func (p *play) drain(name string, most int) {
	l, e := p.Drain(name, most)
	if e != api.OK {
		p.t.Fatal(e)
	}
	p.drained[name] = append(p.drained[name], l...)
}

// bounded (T3): no ring, sink or machine has more than it may; what is over stays so.
func (p *play) bounded() {
	for _, name := range append(p.Names(), "A", "B", "C") {
		if n, ok := p.Free(name); !ok || n < 0 || n > p.c.Ring {
			p.t.Fatal(name, n)
		}
		s, ok := p.Status(name)
		if !ok {
			continue
		}
		if s.Held > p.c.Sink || s.Runs > p.c.Runs || p.wasOver[name] && !s.Over {
			p.t.Fatal(s)
		}
		p.wasOver[name] = s.Over
	}
}

// unclear tells whether a query is over, or comes of one that is.
func (p *play) unclear() map[string]bool {
	told := map[string]bool{}
	for _, q := range p.qs {
		s, _ := p.Status(q.Name)
		told[q.Name] = s.Over || slices.ContainsFunc(query.Inputs(q), func(name string) bool { return told[name] })
	}
	return told
}

// safe (T1): what was drained is the beginning of what is meant of what was given.
func (p *play) safe(given map[string][]event.Event) {
	meant, unclear := p.meaning(p.t, given), p.unclear()
	for _, q := range p.qs {
		got := p.drained[q.Name]
		if !unclear[q.Name] && (len(got) > len(meant[q.Name]) || !trial.Same(got, meant[q.Name][:len(got)])) {
			p.t.Fatal(p.texts, q.Name, got, meant[q.Name])
		}
	}
}

// all feeds all events, in some order.
func (p *play) all() {
	for n := 0; ; n++ {
		if p.d.Roll(2) == 0 {
			p.feed()
		} else {
			p.turn()
		}
		if n%25 == 0 {
			p.safe(p.given)
			p.safe(p.events)
		}
		if !slices.ContainsFunc(p.l, func(s stream.Stream) bool { return len(p.given[s.Name]) < len(p.events[s.Name]) }) {
			break
		}
		if n > 100000 {
			p.t.Fatal("no end", p.texts)
		}
	}
	for _, s := range p.l {
		p.Close(s.Name)
	}
}

// end goes on, in some order, till all is quiet.
func (p *play) end() {
	for n := 0; !p.Quiet(); n++ {
		p.turn()
		if n > 200000 {
			p.t.Fatal("no end", p.texts)
		}
	}
}

// TestPlays (T1 to T4): of each scene several plays, of all rooms and orders, tell the same, which is what is meant.
func TestPlays(t *testing.T) {
	told, over := 0, 0
	for seed := range 150 {
		d := trial.New(seed)
		s := newScene(t, d)
		runs := []int{2, 6, 1024, 1024}[seed%4]
		meant := s.meaning(t, s.events)
		var first *play
		for range 3 {
			p := newPlay(t, s, d, runs)
			p.all()
			p.end()
			p.safe(s.events)
			unclear := p.unclear()
			for _, q := range s.qs {
				got := p.drained[q.Name]
				if !unclear[q.Name] && !trial.Same(got, meant[q.Name]) {
					t.Fatal(s.texts, q.Name, got, meant[q.Name])
				}
				if first != nil && !trial.Same(got, first.drained[q.Name]) {
					t.Fatal(s.texts, q.Name, got, first.drained[q.Name])
				}
				told += min(1, len(got))
				if unclear[q.Name] {
					over++
				}
			}
			first = p
		}
	}
	if told < 300 || over < 50 {
		t.Error("too few", told, over)
	}
}

// TestWhole (T2): once all is closed, nothing is paused, and sinks are drained, all is quiet within Bound ticks.
func TestWhole(t *testing.T) {
	for seed := range 200 {
		d := trial.New(1000 + seed)
		s := newScene(t, d)
		runs := []int{2, 6, 1024}[seed%3]
		p := newPlay(t, s, d, runs)
		p.all()
		for _, name := range p.Names() {
			p.Resume(name)
		}
		var counts []drive.Count
		for _, x := range s.l {
			counts = append(counts, drive.Count{Stream: x.Name, N: p.items[x.Name]})
		}
		most := drive.Bound(s.qs, counts, runs)
		l, ticks := drive.Run(p.Engine, most)
		if !p.Quiet() || ticks > most {
			t.Fatal(s.texts, ticks, most)
		}
		meant, unclear := s.meaning(t, s.events), p.unclear()
		for _, q := range s.qs {
			if got := append(p.drained[q.Name], drive.Of(l, q.Name)...); !unclear[q.Name] && !trial.Same(got, meant[q.Name]) {
				t.Fatal(s.texts, q.Name)
			}
		}
	}
}

// TestTogether (T2): total tells what is meant word by word, too.
func TestTogether(t *testing.T) {
	for seed := range 300 {
		s := newScene(t, trial.New(5000+seed))
		got, want := s.meaning(t, s.events), trial.Together(s.l, s.events, s.qs)
		for _, q := range s.qs {
			if !trial.Same(got[q.Name], want[q.Name]) {
				t.Fatal(s.texts, q.Name)
			}
		}
	}
}

// TestFront (T5): of every text an error with its place, or a query whose machine tells what it means.
func TestFront(t *testing.T) {
	d := trial.New(7)
	right := 0
	for range 3000 {
		l := trial.Streams()
		text := d.Query("q", []string{"A", "B", "C"})
		words, _, _ := lex.All(text)
		for range d.Roll(3) {
			words[d.Roll(len(words))] = words[d.Roll(len(words))]
		}
		text = lex.Put(words)
		g, _ := engine.New(engine.Config{Streams: l, Ring: 4, Sink: 4, Runs: 1024})
		which, at, e := g.Register([]string{text}, 1)
		q, place, err := parse.Parse(text)
		if err != api.OK && (which != 0 || at != place || e != err || place < 0 || place > len(text)) {
			t.Fatal(text, at, e, place, err)
		}
		if err != api.OK {
			continue
		}
		again, _, err := parse.Parse(query.Put(q))
		if err != api.OK || !query.Same(q, again) || !query.Right(q) {
			t.Fatal(text, query.Put(q))
		}
		_, err = check.Check(l, q)
		if (e == api.OK) != (err == api.OK) || e == api.OK && len(g.Names()) != 1 || e != api.OK && len(g.Names()) != 0 {
			t.Fatal(text, e, err)
		}
		if e == api.OK {
			right++
			tells(t, l, q, d)
		}
	}
	if right < 500 {
		t.Error("too few", right)
	}
}

// tells holds what q's machine tells against what q means.
func tells(t *testing.T, l []stream.Stream, q query.Query, d *trial.Dice) {
	t.Helper()
	in := d.Entries(l, 6, true)
	in = slices.DeleteFunc(in, func(x denote.Entry) bool { return !denote.Counts(l, q, x) })
	m, e := machine.New(l, q, api.MaxRuns)
	if e != api.OK {
		t.Fatal(e)
	}
	var got []denote.Match
	for _, x := range in {
		more, _ := m.Take(x)
		got = append(got, more...)
	}
	got = append(got, m.Close()...)
	if want, _ := denote.All(l, q, in); !trial.Same(got, want) {
		t.Fatal(query.Put(q), got, want)
	}
}

// TestCycles (T5): texts are refused as a cycle just if what they derive would come of itself.
func TestCycles(t *testing.T) {
	d := trial.New(8)
	cycles, rights := 0, 0
	for range 2000 {
		n := 1 + d.Roll(4)
		from, texts := make([][]bool, n), []string{}
		for i := range n {
			from[i] = make([]bool, n)
			reads := []string{"A"}
			for range d.Roll(3) {
				k := d.Roll(n)
				if !from[i][k] {
					reads = append(reads, fmt.Sprint("q", k))
				}
				from[i][k] = true
			}
			texts = append(texts, fmt.Sprint("q", i, " = ", strings.Join(reads, " | "), " a WITHIN 1"))
		}
		for k := range n {
			for i := range n {
				for j := range n {
					from[i][j] = from[i][j] || from[i][k] && from[k][j]
				}
			}
		}
		first := -1
		for i := range n {
			if from[i][i] && first < 0 {
				first = i
			}
		}
		g, _ := engine.New(engine.Config{Streams: trial.Streams(), Ring: 1, Sink: 1, Runs: 1})
		which, at, e := g.Register(texts, 1)
		if first >= 0 && (e != api.ErrCycle || which != first || at != 0 || len(g.Names()) > 0) || first < 0 && (e != api.OK || len(g.Names()) != n) {
			t.Fatal(texts, which, at, e)
		}
		cycles += min(1, first+1)
		rights += 1 - min(1, first+1)
	}
	if cycles < 200 || rights < 200 {
		t.Error("too few", cycles, rights)
	}
}

// TestExamples: those of the document's section of that name.
func TestExamples(t *testing.T) {
	l := trial.Streams()[:2]
	g, _ := engine.New(engine.Config{Streams: l, Ring: 8, Sink: 8, Runs: 8})
	d := trial.New(9)
	for _, s := range []string{"q = A a ; B b WITHIN 5", "n = A a ; !B b WITHIN 5", "r = q x ; q y WITHIN 9"} {
		if _, at, e := g.Register([]string{s}, 10); e != api.OK {
			t.Fatal(at, e)
		}
	}
	for i, now := range []int64{1, 3, 9} {
		if e := g.Offer(l[min(i, 1)].Name, d.Event(l[min(i, 1)], now)); e != api.OK {
			t.Fatal(e)
		}
	}
	g.Mark("A", 9)
	told, _ := drive.Run(g, math.MaxInt)
	if m := drive.Of(told, "q"); len(m) != 1 || m[0].At != 3 || len(drive.Of(told, "n"))+len(drive.Of(told, "r")) > 0 {
		t.Error(told)
	}
	g.Offer("A", d.Event(l[0], 10))
	g.Mark("B", 15)
	g.Mark("A", 15)
	told, _ = drive.Run(g, math.MaxInt)
	if len(told) != 0 {
		t.Error("told too early", told)
	}
	g.Mark("B", 16)
	g.Mark("A", 16)
	told, _ = drive.Run(g, math.MaxInt)
	if m := drive.Of(told, "n"); len(m) != 1 || m[0].At != 15 {
		t.Error(told)
	}
}

// TestChain: what a query derives, one event of a time, comes into another one as from a source.
func TestChain(t *testing.T) {
	l := trial.Streams()[:2]
	g, _ := engine.New(engine.Config{Streams: l, Ring: 8, Sink: 8, Runs: 8})
	d := trial.New(10)
	if _, at, e := g.Register([]string{"r = q x ; q y WITHIN 9", "q = A a ; B b WITHIN 5"}, 10); e != api.OK {
		t.Fatal(at, e)
	}
	for i, now := range []int64{1, 2, 3, 4} {
		if e := g.Offer(l[i/2].Name, d.Event(l[i/2], now)); e != api.OK {
			t.Fatal(e)
		}
	}
	g.Close("A")
	g.Close("B")
	told, _ := drive.Run(g, math.MaxInt)
	q, r := drive.Of(told, "q"), drive.Of(told, "r")
	if len(q) != 4 || q[1].At != 3 || q[2].At != 4 || len(r) != 1 || r[0].At != 4 || !g.Quiet() {
		t.Error(told)
	}
}
