package whole

import (
	"fmt"
	"math"
	"slices"
	"strings"
	"testing"

	"marshalling/api"
	"marshalling/check"
	"marshalling/denote"
	"marshalling/drive"
	"marshalling/drr"
	"marshalling/engine"
	"marshalling/event"
	"marshalling/expr"
	"marshalling/graph"
	"marshalling/hold"
	"marshalling/lex"
	"marshalling/machine"
	"marshalling/merge"
	"marshalling/parse"
	"marshalling/query"
	"marshalling/reckon"
	"marshalling/ring"
	"marshalling/script"
	"marshalling/stream"
	"marshalling/task"
	"marshalling/total"
	"marshalling/trial"
	"marshalling/value"
	"marshalling/vari"
)

// odd throws arguments of plain types, right ones and others.
type odd struct {
	*trial.Dice
	kept []func() bool // each asks whether a list that was thrown is as it was, with what stands behind it in its array
}

// list throws a list of up to n, with room behind it that must not be written into.
func list[T any](o *odd, n int, one func() T) []T {
	l := make([]T, 0, n+3)
	size := o.Roll(n + 1)
	for range size + 1 {
		l = append(l, one())
	}
	was := fmt.Sprint(l)
	o.kept = append(o.kept, func() bool { return fmt.Sprint(l) == was })
	return l[:size]
}

func (o *odd) text() string {
	l := []string{"", "A", "B", "C", "q", "x", "k", "v0", "1", "BY", "a b", "'", "$", "true", "-5", "A()", "a(x:int)", "\x01\x02", "\x00\x05\x00", "q = A a WITHIN 1", "a.x + 1", strings.Repeat("z", 30), strings.Repeat("(", 2049), "tick", "register 5 @", "offer A 1 1"}
	return l[o.Roll(len(l))]
}

func (o *odd) number() int64 {
	l := []int64{0, 1, 2, 3, -1, 7, 64, 256, 257, 1000, 1024, api.MaxWindow, api.MaxOffer, api.MaxTime, api.MaxTime + 1, math.MaxInt64, math.MinInt64}
	return l[o.Roll(len(l))]
}

func (o *odd) int() int { return int(o.number()) }

func (o *odd) truth() bool { return o.Roll(2) == 0 }

func (o *odd) value() value.Value {
	return []value.Value{{}, {Kind: o.Roll(5), N: o.number(), S: o.text()}, {Kind: value.Int, N: o.number()}, {Kind: value.Bool, N: 1}, {Kind: value.Text, S: o.text()}}[o.Roll(5)]
}

func (o *odd) event() event.Event { return event.Event{Time: o.number(), V: list(o, 8, o.value)} }

func (o *odd) item() event.Item { return event.Item{Mark: o.truth(), E: o.event()} }

func (o *odd) field() stream.Field { return stream.Field{Name: o.text(), Kind: o.Roll(5)} }

func (o *odd) stream() stream.Stream {
	if o.Roll(3) > 0 {
		return trial.Streams()[o.Roll(3)]
	}
	return stream.Stream{Name: o.text(), Fields: list(o, 8, o.field)}
}

func (o *odd) expr() expr.Expr { return o.tree(2) }

func (o *odd) tree(deep int) expr.Expr {
	ops := append(expr.Ops(), "!", "", "=")
	e := expr.Expr{Kind: o.Roll(6), Op: ops[o.Roll(len(ops))], V: o.value(), Var: o.text(), Field: o.text()}
	if deep > 0 {
		e.Kids = list(o, 2, func() expr.Expr { return o.tree(deep - 1) })
	}
	if o.Roll(3) > 0 {
		e, _, _ = parse.Expr([]string{"v0.x > 1", "#v0 == 2", "!true", "v0.k + 'a' < v1.k", "1 / 0 == 1"}[o.Roll(5)])
	}
	return e
}

func (o *odd) part() query.Part {
	return query.Part{Not: o.Roll(3) == 0, Plus: o.Roll(3) == 0, Streams: list(o, 5, o.text), Var: o.text(), Pred: list(o, 2, o.expr)}
}

func (o *odd) query() query.Query {
	if o.Roll(3) > 0 {
		q, _, _ := parse.Parse(o.Query([]string{"q", "p", "r"}[o.Roll(3)], []string{"A", "B", "C"}))
		return q
	}
	out := func() query.Output { return query.Output{Field: o.text(), E: o.expr()} }
	return query.Query{Name: o.text(), Strict: o.truth(), Parts: list(o, 9, o.part), Within: o.number(), By: o.text(), Out: list(o, 7, out)}
}

func (o *odd) entry() denote.Entry {
	if o.Roll(3) > 0 {
		s := trial.Streams()[o.Roll(3)]
		return denote.Entry{Stream: s.Name, E: o.Event(s, int64(o.Roll(9)))}
	}
	return denote.Entry{Stream: o.text(), E: o.event()}
}

func (o *odd) indexes() []int { return list(o, 3, o.int) }

func (o *odd) parts() [][]int { return list(o, 3, o.indexes) }

func (o *odd) match() denote.Match {
	return denote.Match{Parts: o.parts(), At: o.number(), E: o.event()}
}

func (o *odd) events() []event.Event { return list(o, 4, o.event) }

func (o *odd) node() graph.Node { return graph.Node{Name: o.text(), From: list(o, 3, o.text)} }

func (o *odd) bind() reckon.Bind {
	return reckon.Bind{Var: o.text(), Fields: list(o, 3, o.text), Events: o.events()}
}

func (o *odd) slot() check.Slot { return check.Slot{Var: o.text(), Fields: list(o, 3, o.field)} }

func (o *odd) token() lex.Token {
	return lex.Token{Kind: o.Roll(7), Text: o.text(), N: o.number(), At: o.int()}
}

func (o *odd) head() merge.Head {
	return merge.Head{Has: o.truth(), Time: o.number(), Low: o.number(), Done: o.truth()}
}

func (o *odd) source() total.Source { return total.Source{S: o.stream(), L: o.events()} }

func (o *odd) told() drive.Told { return drive.Told{Query: o.text(), M: o.match()} }

func (o *odd) count() drive.Count { return drive.Count{Stream: o.text(), N: o.int()} }

func (o *odd) config() engine.Config {
	return engine.Config{Streams: list(o, 3, o.stream), Ring: 1 + o.Roll(3), Sink: 1 + o.Roll(3), Runs: 1 + o.Roll(9)}
}

// plain are calls of functions, each told its arguments by o.
func plain(o *odd) []func() any {
	all := func(l ...any) any { return l }
	return []func() any{
		func() any { u, next, ok := vari.Get(o.text(), o.int()); return all(u, next, ok) },
		func() any { u, next, ok := vari.GetInt(o.text(), o.int()); return all(u, next, ok) },
		func() any {
			n := o.number()
			return all(vari.Zig(n), vari.Zag(uint64(n)), vari.Put(uint64(n)), vari.PutInt(n))
		},
		func() any { v, next, ok := value.Get(o.text(), o.int()); return all(v, next, ok) },
		func() any {
			v := o.value()
			n, ok := value.Order(v, o.value())
			return all(n, ok, value.Right(v), value.Put(v), value.Show(v))
		},
		func() any {
			s := o.stream()
			return all(stream.Right(s), stream.Put(s), stream.At(s, o.text()), stream.Same(s, o.stream()), stream.IsName(o.text()))
		},
		func() any {
			l := list(o, 9, o.stream)
			s, ok := stream.Get(o.text())
			return all(stream.All(l), stream.Find(l, o.text()), s, ok)
		},
		func() any {
			e := o.event()
			x, ok := event.Get(o.text())
			return all(event.Plain(e), event.Put(e), event.Same(e, o.event()), event.Fits(o.stream(), e), x, ok)
		},
		func() any {
			e := o.item()
			x, ok := event.GetItem(o.text())
			return all(event.Right(e), event.PutItem(e), event.SameItem(e, o.item()), x, ok)
		},
		func() any {
			l, at, e := lex.All(o.text())
			return all(l, at, e, lex.Signs(), lex.Put(list(o, 5, o.token)))
		},
		func() any {
			e := o.expr()
			return all(expr.Right(e), expr.Same(e, o.expr()), expr.Put(e), expr.Vars(e), expr.Size(e), expr.Level(o.text()))
		},
		func() any {
			l := list(o, 3, o.bind)
			e := o.expr()
			v, ok := reckon.Reckon(e, l)
			return all(v, ok, reckon.Holds(e, l))
		},
		func() any {
			a, ok := reckon.Div(o.number(), o.number())
			b, also := reckon.Rem(o.number(), o.number())
			return all(a, ok, b, also)
		},
		func() any {
			q := o.query()
			return all(query.Right(q), query.Same(q, o.query()), query.Put(q), query.Inputs(q), query.Waits(q))
		},
		func() any {
			q, at, e := parse.Parse(o.text())
			x, place, f := parse.Expr(o.text())
			return all(q, at, e, x, place, f)
		},
		func() any {
			k, e := check.Kind(o.expr(), list(o, 3, o.slot))
			return all(k, e, check.Common(list(o, 3, o.stream)), check.Of(list(o, 3, o.stream), o.part()))
		},
		func() any { return check.View(o.stream(), list(o, 4, o.field), o.event()) },
		func() any { s, e := check.Check(list(o, 4, o.stream), o.query()); return all(s, e) },
		func() any {
			l := list(o, 5, o.node)
			a, e := graph.Ranks(l)
			b, f := graph.Order(l)
			return all(graph.Loops(l), a, e, b, f, graph.Above(l, o.text()))
		},
		func() any {
			l := trial.Streams()
			q := o.query()
			m, e := denote.All(l, q, list(o, 6, o.entry))
			return all(m, e, denote.Counts(l, q, o.entry()))
		},
		func() any { return all(denote.Order(o.parts(), o.parts()), denote.Sent(list(o, 4, o.match))) },
		func() any {
			l := list(o, 4, o.head)
			n, ok := merge.Low(l)
			return all(merge.Pick(l), n, ok, merge.All(list(o, 3, o.events)))
		},
		func() any { return total.Entries(list(o, 3, o.text), list(o, 3, o.events)) },
		func() any { r, e := total.Of(list(o, 3, o.source), list(o, 2, o.query)); return all(r, e) },
		func() any {
			return all(drive.Of(list(o, 4, o.told), o.text()), drive.Bound(list(o, 3, o.query), list(o, 3, o.count), o.int()))
		},
		func() any {
			v, ok := script.Value(o.text())
			n, also := script.Number(o.text())
			return all(v, ok, n, also, script.Text(o.match()))
		},
		func() any { s, e := script.Play(o.config(), list(o, 6, o.text)...); return all(s, e) },
	}
}

// objects are plays of odd calls on objects.
func objects(o *odd) []func() any {
	return []func() any{
		func() any { return oddRing(o) }, func() any { return oddHold(o) }, func() any { return oddMachine(o) }, func() any { return oddDrr(o) },
		func() any { return oddTask(o) }, func() any { return oddEngine(o) },
	}
}

func oddRing(o *odd) string {
	told := ""
	for _, room := range []int{o.int(), 2} {
		r, e := ring.New(room)
		told += fmt.Sprint(e)
		for n := 0; r != nil && n < 30; n++ {
			x, ok := r.Peek(o.int())
			y, also := r.Next(o.int())
			told += fmt.Sprint(r.Put(o.item()), r.Add(), r.Wait(o.int()), x, ok, y, also, r.Low(o.int()), r.Ended(o.int()), r.Drop(o.int()), r.Len(), r.Free(), r.Edge())
			if o.Roll(20) == 0 {
				r.Close()
			}
		}
	}
	return told
}

func oddHold(o *odd) string {
	h, told := hold.New[int](), ""
	for range 20 {
		h.Add(hold.Wait[int]{Until: o.number(), Parts: o.parts(), X: o.int()})
		w, ok := h.At(o.int())
		told += fmt.Sprint(w, ok, h.Cut(o.int()), h.Len())
		if o.Roll(5) == 0 {
			told += fmt.Sprint(h.Due(o.number()))
		}
	}
	return told + fmt.Sprint(h.All())
}

func oddMachine(o *odd) string {
	m, e := machine.New(trial.Streams(), o.query(), o.int())
	told := fmt.Sprint(e)
	for n := 0; m != nil && n < 20; n++ {
		a, e := m.Take(o.entry())
		told += fmt.Sprint(a, e, m.Runs(), m.Now(), m.Next(), m.Over(), m.Closed(), m.Derived())
		if o.Roll(6) == 0 {
			b, e := m.Mark(o.number())
			told += fmt.Sprint(b, e)
		}
		if o.Roll(20) == 0 {
			told += fmt.Sprint(m.Close())
		}
	}
	return told
}

func oddDrr(o *odd) string {
	d, told := drr.New(), ""
	cost := func() drr.Cost { return drr.Cost{ID: o.int(), N: o.int()} }
	for range 30 {
		id, ok := d.Turn(list(o, 5, cost))
		told += fmt.Sprint(d.Add(o.int(), o.int()), id, ok, d.Flows())
		if o.Roll(4) == 0 {
			told += fmt.Sprint(d.Drop(o.int()))
		}
	}
	return told
}

func oddTask(o *odd) string {
	var in []*ring.Ring
	for range o.Roll(4) {
		r, _ := ring.New(3)
		in = append(in, r)
	}
	out, _ := ring.New(2)
	w, e := task.New(trial.Streams(), o.query(), o.int(), o.int(), in, out)
	told := fmt.Sprint(e)
	for n := 0; w != nil && n < 40; n++ {
		for _, r := range in {
			r.Put(event.Item{E: o.entry().E})
		}
		told += fmt.Sprint(w.Ready(), w.Cost(), w.Step(), w.Held(), w.Staged(), w.Waiting(), w.Runs(), w.Over(), w.Done())
		told += fmt.Sprint(w.Drain(o.int()))
		if o.Roll(30) == 0 {
			w.Leave()
		}
	}
	return told
}

func oddEngine(o *odd) string {
	g, e := engine.New(o.config())
	told := fmt.Sprint(e)
	for n := 0; g != nil && n < 40; n++ {
		name := []string{o.text(), "q", "p", "r"}[o.Roll(4)]
		texts := list(o, 3, func() string {
			return []string{o.text(), o.Query("q", []string{"A", "p"}), o.Query("p", []string{"A", "B"})}[o.Roll(3)]
		})
		which, at, e := g.Register(texts, o.int())
		s, ok := g.Derived(name)
		l, f := g.Drain(name, o.int())
		x, also := g.Status(name)
		free, is := g.Free(name)
		told += fmt.Sprint(which, at, e, g.Names(), s, ok, g.Offer(name, o.entry().E), g.Offer("A", o.Event(trial.Streams()[0], int64(n))), g.Mark(name, o.number()), g.Pause(name), g.Resume(name), g.Step(name), l, f, x, also, free, is, g.Ready(), g.Quiet())
		tick, did := g.Tick()
		told += fmt.Sprint(tick, did)
		if o.Roll(9) == 0 {
			told += fmt.Sprint(g.Unregister(name), g.Close(name))
		}
	}
	return told
}

// TestRules (P1, P3, P4): whatever the arguments, no call panics, none writes into what is handed in, or behind it, and the same calls tell the same.
func TestRules(t *testing.T) {
	for n := range len(plain(nil)) + len(objects(nil)) {
		for seed := range 60 {
			first, again := ruled(t, n, seed), ruled(t, n, seed)
			if first != again {
				t.Fatal("another answer", n, seed, first, again)
			}
		}
	}
}

// ruled makes the call of that number, and tells its answer.
func ruled(t *testing.T, n, seed int) string {
	t.Helper()
	defer func() {
		if p := recover(); p != nil {
			t.Fatal("panic", n, seed, p)
		}
	}()
	o := &odd{Dice: trial.New(seed)}
	told := fmt.Sprint(slices.Concat(plain(o), objects(o))[n]())
	for i, kept := range o.kept {
		if !kept() {
			t.Fatal("written into", n, seed, i)
		}
	}
	return told
}
