package task_test

import (
	"math"
	"slices"
	"strconv"
	"strings"
	"testing"

	"marshalling/api"
	"marshalling/denote"
	"marshalling/event"
	"marshalling/merge"
	"marshalling/parse"
	"marshalling/query"
	"marshalling/ring"
	"marshalling/stream"
	"marshalling/task"
	"marshalling/trial"
	"marshalling/value"
)

func parsed(t *testing.T, s string) query.Query {
	t.Helper()
	q, at, e := parse.Parse(s)
	if e != api.OK {
		t.Fatal(s, at, e)
	}
	return q
}

// streams are A, B and C of an x.
func streams() []stream.Stream {
	x := []stream.Field{{Name: "x", Kind: value.Int}}
	return []stream.Stream{{Name: "A", Fields: x}, {Name: "B", Fields: x}, {Name: "C", Fields: x}}
}

func rings(t *testing.T, n, room int) []*ring.Ring {
	t.Helper()
	l := []*ring.Ring{}
	for range n {
		r, e := ring.New(room)
		if e != api.OK {
			t.Fatal(e)
		}
		l = append(l, r)
	}
	return l
}

func at(now int64, n ...int64) event.Item {
	x := event.Item{E: event.Event{Time: now}}
	for _, n := range n {
		x.E.V = append(x.E.V, value.Value{Kind: value.Int, N: n})
	}
	return x
}

func mark(now int64) event.Item { return event.Item{Mark: true, E: event.Event{Time: now}} }

// work is a task, and what stands around it.
type work struct {
	*task.Task
	in     []*ring.Ring
	out    *ring.Ring
	reader int
}

func made(t *testing.T, q string, room, sink int) *work {
	t.Helper()
	x := parsed(t, "q = "+q)
	l := rings(t, len(query.Inputs(x))+1, room)
	w := &work{in: l[1:], out: l[0], reader: l[0].Add()}
	made, e := task.New(streams(), x, 100, sink, w.in, w.out)
	if e != api.OK {
		t.Fatal(q, e)
	}
	w.Task = made
	return w
}

// sent tells what stands in out, which is read by that.
func (w *work) sent() string {
	l := []string{}
	for {
		x, ok := w.out.Next(w.reader)
		if !ok {
			return strings.Join(l, " ")
		}
		s := strconv.FormatInt(x.E.Time, 10)
		if x.Mark {
			s = "=" + s
		}
		l = append(l, s)
	}
}

// all makes steps as long as there are any, and tells how many.
func (w *work) all() int {
	n := 0
	for w.Step() {
		n++
	}
	return n
}

func shown(l []denote.Match) string {
	texts := []string{}
	for _, m := range l {
		parts := []string{}
		for _, p := range m.Parts {
			s := []string{}
			for _, i := range p {
				s = append(s, strconv.Itoa(i))
			}
			parts = append(parts, strings.Join(s, ","))
		}
		texts = append(texts, strings.Join(parts, ";")+"@"+strconv.FormatInt(m.At, 10))
	}
	return strings.Join(texts, " ")
}

// TestNew (P18.1, P2): each error, in its order; of a refused one no reader is left.
func TestNew(t *testing.T) {
	q := parsed(t, "q = A a ; B b WITHIN 5")
	for i, c := range []struct {
		q              query.Query
		most, sink, in int
		want           api.Errno
	}{
		{query.Query{}, 0, 0, 0, api.ErrArg}, {parsed(t, "q = Z z WITHIN 1"), 0, 0, 0, api.ErrName}, {parsed(t, "A = A a WITHIN 1"), 1, 0, 1, api.ErrTwice}, {q, 0, 1, 2, api.ErrArg}, {q, 1025, 1, 2, api.ErrArg},
		{q, 1, 0, 2, api.ErrArg}, {q, 1, 257, 2, api.ErrArg}, {q, 1, math.MinInt, 2, api.ErrArg}, {q, 1, 1, 1, api.ErrArg}, {q, 1, 1, 3, api.ErrArg}, {q, 1, 1, 0, api.ErrArg}, {q, 1, 1, 2, api.OK}, {q, 1024, 256, 2, api.OK},
	} {
		in := rings(t, c.in, 4)
		w, e := task.New(streams(), c.q, c.most, c.sink, in, rings(t, 1, 4)[0])
		if e != c.want || (w != nil) != (e == api.OK) {
			t.Error(i, e)
		}
		if e == api.OK && (w.Done() || w.Held()+w.Staged()+w.Waiting()+w.Runs() > 0 || w.Over() || w.Ready() || w.Cost() != 0) {
			t.Error(i, "new")
		}
	}
	full := rings(t, 3, 4)
	for full[1].Add() != 0 {
	}
	if w, e := task.New(streams(), q, 1, 1, full[:2], full[2]); w != nil || e != api.ErrFull {
		t.Error(e)
	}
	// Reader 1 of the first ring was dropped: none keeps anything.
	if full[0].Put(at(1, 1)); full[0].Len() != 0 {
		t.Error("a reader is left")
	}
	if w, e := task.New(streams(), q, 1, 0, full[:2], full[2]); w != nil || e != api.ErrArg {
		t.Error(e)
	}
}

// TestSteps (P18.2, P18.3, P18.4): step by step, what each does and costs.
func TestSteps(t *testing.T) {
	w := made(t, "A a ; B b WITHIN 5 EMIT s: a.x + b.x", 4, 2)
	step := func(cost, held, staged, waiting, runs int, sent string) {
		t.Helper()
		if !w.Ready() || w.Cost() != cost || !w.Step() {
			t.Error("ready", w.Ready(), w.Cost())
		}
		if got := w.sent(); w.Held() != held || w.Staged() != staged || w.Waiting() != waiting || w.Runs() != runs || got != sent {
			t.Error(w.Held(), w.Staged(), w.Waiting(), w.Runs(), got)
		}
	}
	idle := func() {
		t.Helper()
		if w.Ready() || w.Cost() != 0 || w.Step() || w.Done() {
			t.Error("not idle", w.Cost())
		}
	}
	idle()
	w.in[0].Put(at(1, 5))
	idle()
	w.in[1].Put(mark(1))
	step(3, 0, 1, 1, 0, "")
	step(1, 0, 0, 1, 0, "=1")
	step(1+5, 0, 0, 0, 1, "")
	idle()
	// Nothing can be read yet, but 2 is known to those behind.
	w.in[1].Put(at(3, 7))
	step(1, 0, 1, 1, 1, "")
	step(1, 0, 0, 1, 1, "=2")
	idle()
	w.in[0].Put(mark(3))
	step(3, 0, 1, 1, 1, "")
	step(1, 0, 0, 1, 1, "=3")
	idle()
	w.in[0].Put(mark(4))
	step(3, 0, 0, 1, 1, "")
	step(1+5, 0, 1, 0, 1, "")
	step(1, 1, 0, 0, 1, "3")
	idle()
	w.in[0].Close()
	w.in[1].Put(mark(9))
	step(3, 1, 1, 0, 0, "")
	step(1, 1, 0, 0, 0, "=9")
	idle()
	w.in[1].Close()
	if w.Cost() != 1 || w.Done() || !w.Step() || !w.Done() || !w.out.Closed() || w.Step() || w.Ready() || w.Cost() != 0 {
		t.Error("end")
	}
	if l := w.Drain(5); shown(l) != "0;1@3" || l[0].E.V[0].N != 12 || w.Held() != 0 {
		t.Error(shown(l))
	}
}

// TestRoom (P18.2): the stage waits for the sink, and for out; what is not sent asks for no room in out.
func TestRoom(t *testing.T) {
	w := made(t, "A a+ WITHIN 9", 1, 2)
	w.in[0].Put(at(1, 0))
	w.Step()
	if w.Staged() != 1 || !w.Step() || w.Held() != 1 || w.out.Total() != 1 {
		t.Error(w.Staged(), w.Held())
	}
	w.in[0].Put(at(2, 0))
	w.Step()
	// {0,1} would be sent, and out is full.
	if w.Staged() != 2 || w.Ready() || w.Cost() != 0 || w.Step() {
		t.Error("out is full", w.Staged())
	}
	if got := w.sent(); got != "1" || !w.Step() || w.Held() != 2 || w.Staged() != 1 {
		t.Error(got, w.Held())
	}
	// {1} is of the same time: it is not sent, and only the sink is full.
	if w.Ready() || len(w.Drain(1)) != 1 || !w.Step() || w.Staged() != 0 || w.out.Total() != 2 {
		t.Error("sink is full")
	}
	if got := shown(w.Drain(9)); got != "0,1@2 1@2" {
		t.Error(got)
	}
	w.in[0].Put(mark(7))
	if w.Step(); w.Staged() != 1 || w.Ready() {
		t.Error("a mark waits for out")
	}
	if got := w.sent(); got != "2" || !w.Step() || w.sent() != "=7" {
		t.Error(got)
	}
}

// TestDrain (P18.4, P6): as many as are asked for.
func TestDrain(t *testing.T) {
	w := made(t, "A a WITHIN 9 EMIT x: a.x", 8, 8)
	for i := range int64(5) {
		w.in[0].Put(at(i, i))
	}
	w.all()
	for _, most := range []int{0, -1, math.MinInt} {
		if l := w.Drain(most); len(l) != 0 || w.Held() != 5 {
			t.Error(most, l)
		}
	}
	l := w.Drain(2)
	if shown(l) != "0@0 1@1" || w.Held() != 3 {
		t.Error(shown(l))
	}
	l = append(l, l...)
	l[0].Parts[0][0], l[0].E.V[0].N = 9, 9
	if got := shown(w.Drain(math.MaxInt)); got != "2@2 3@3 4@4" || w.Held() != 0 || len(w.Drain(1)) != 0 {
		t.Error(got)
	}
}

// TestSent (P18.3): what is below Known is not sent, nor what is not plain; marks are at most MaxTime.
func TestSent(t *testing.T) {
	w := made(t, "A a ; !B b WITHIN 4", 8, 8)
	w.in[0].Put(at(1, 0))
	w.in[0].Put(at(2, 0))
	w.in[0].Close()
	w.in[1].Put(mark(6))
	w.all()
	if got := w.sent(); got != "=1 =2 5" || shown(w.Drain(9)) != "0;@5" {
		t.Error(got)
	}
	w.in[1].Close()
	w.all()
	if got := w.sent(); got != "6" || shown(w.Drain(9)) != "1;@6" || !w.Done() || !w.out.Closed() {
		t.Error(got)
	}
	w = made(t, "A a ; !B b WITHIN 4", 8, 8)
	w.in[1].Close()
	w.in[0].Put(at(api.MaxTime-5, 0))
	w.in[0].Put(at(api.MaxTime-4, 0))
	w.in[0].Put(at(api.MaxTime-3, 0))
	w.in[0].Put(at(api.MaxTime, 0))
	w.in[0].Close()
	w.all()
	text := func(less int64) string { return strconv.FormatInt(api.MaxTime-less, 10) }
	if got := w.sent(); got != "="+text(4)+" ="+text(3)+" "+text(1)+" "+text(0) || len(w.Drain(9)) != 4 || !w.Done() {
		t.Error(got)
	}
	// Behind what out knew already nothing is sent again.
	in, out := rings(t, 1, 4), rings(t, 1, 4)[0]
	out.Put(mark(5))
	k, _ := task.New(streams(), parsed(t, "q = A a WITHIN 1"), 9, 9, in, out)
	in[0].Put(at(3, 0))
	in[0].Put(at(5, 0))
	// What is known to those behind stays so: only the match is staged.
	if !k.Step() || k.Staged() != 1 {
		t.Error(k.Staged())
	}
	for k.Step() {
	}
	if out.Total() != 2 || out.Edge() != 6 || k.Held() != 2 {
		t.Error(out.Total(), out.Edge(), k.Held())
	}
}

// TestLastMark (P18.2, P18.3): a mark of MaxTime is told; what is behind it is not.
func TestLastMark(t *testing.T) {
	w := made(t, "A a WITHIN 1", 8, 8)
	w.in[0].Put(at(api.MaxTime, 0))
	w.in[0].Put(mark(api.MaxTime + 1))
	if w.in[0].Total() != 1 || w.all() != 2 {
		t.Error(w.in[0].Total())
	}
	last := strconv.Itoa(api.MaxTime)
	if got := w.sent(); got != last || w.out.Edge() != api.MaxTime+1 || w.Ready() {
		t.Error(got)
	}
	two := made(t, "A a ; B b WITHIN 1", 8, 8)
	two.in[0].Put(at(api.MaxTime, 0))
	two.in[1].Put(at(api.MaxTime-1, 0))
	two.in[1].Put(mark(api.MaxTime))
	two.all()
	if got := two.sent(); got != "="+last {
		t.Error(got)
	}
}

// TestUnfit (P18.3): what does not count is read, and not taken.
func TestUnfit(t *testing.T) {
	w := made(t, "A a WITHIN 1", 8, 8)
	w.in[0].Put(at(1))
	w.in[0].Put(at(2, 0, 0))
	w.in[0].Put(at(3, 0))
	w.all()
	if got := shown(w.Drain(9)); got != "0@3" || w.Waiting() != 0 || w.sent() != "=2 =3 3" {
		t.Error(got)
	}
}

// TestLeave (P18.4): readers are no more, out is closed; sink and stage stay.
func TestLeave(t *testing.T) {
	w := made(t, "A a ; B b WITHIN 9", 2, 2)
	w.in[0].Put(at(1, 0))
	w.in[1].Put(at(2, 0))
	for range 3 {
		w.Step()
	}
	w.in[0].Put(mark(9))
	w.Step()
	w.in[1].Put(at(4, 0))
	for w.Staged() == 0 && w.Step() {
	}
	held, staged, runs := w.Held(), w.Staged(), w.Runs()
	for range 2 {
		w.Leave()
		if !w.Done() || !w.out.Closed() || w.Ready() || w.Step() || w.Cost() != 0 || w.Waiting() != 0 || w.Held() != held || w.Staged() != staged || w.Runs() != runs || staged == 0 || runs == 0 {
			t.Error("left", w.Held(), w.Staged(), w.Runs())
		}
	}
	if w.in[0].Len() != 0 || w.in[1].Len() != 0 || w.in[0].Closed() {
		t.Error("readers")
	}
	// What left once it was done closes nothing twice, and what it holds is drained yet.
	done := made(t, "A a WITHIN 9", 2, 2)
	done.in[0].Put(at(1, 0))
	done.in[0].Close()
	done.all()
	done.Leave()
	if !done.Done() || shown(done.Drain(1)) != "0@1" {
		t.Error("done")
	}
}

// TestOver (P18.3): what is over reads on, and ends.
func TestOver(t *testing.T) {
	in, out := rings(t, 1, 9), rings(t, 1, 9)[0]
	w, _ := task.New(streams(), parsed(t, "q = A a+ ; A b WITHIN 9"), 2, 9, in, out)
	for i := range int64(5) {
		in[0].Put(at(i, 0))
	}
	in[0].Close()
	for w.Step() {
	}
	if !w.Over() || !w.Done() || w.Waiting() != 0 || w.Held() != 0 || w.Runs() != 0 {
		t.Error(w.Over(), w.Done(), w.Held())
	}
}

// TestPlays (P18.5): whatever the order of the steps, and of what comes in, the sink gets what is meant, and out what is sent of it.
func TestPlays(t *testing.T) {
	d := trial.New(1)
	told := 0
	for range 1200 {
		l := trial.Streams()
		q := parsed(t, d.Query("q", []string{"A", "B", "C"}))
		names := query.Inputs(q)
		all := rings(t, len(names)+1, 1+d.Roll(4))
		in, out := all[1:], all[0]
		w, e := task.New(l, q, api.MaxRuns, 1+d.Roll(3), in, out)
		if e != api.OK {
			t.Fatal(e)
		}
		reader := out.Add()
		given := make([][]event.Event, len(names))
		var drained []denote.Match
		var sent []event.Event
		for turns := 0; !w.Done() || w.Held() > 0 || !out.Ended(reader); turns++ {
			i := d.Roll(len(names))
			switch what := d.Roll(9); {
			case what == 0:
				in[i].Put(mark(in[i].Edge() + int64(d.Roll(3))))
			case what < 3 && len(given[i]) < 4:
				e := d.Event(l[stream.Find(l, names[i])], in[i].Edge()+int64(d.Roll(3)))
				if in[i].Put(event.Item{E: e}) == api.OK {
					given[i] = append(given[i], e)
				}
			case what == 3:
				drained = append(drained, w.Drain(d.Roll(4))...)
			case what == 4:
				if x, ok := out.Next(reader); ok && !x.Mark {
					sent = append(sent, x.E)
				}
			default:
				ready := w.Ready()
				if (w.Cost() > 0) != ready || w.Step() != ready {
					t.Fatal("ready")
				}
			}
			if turns > 40 {
				in[i].Close()
			}
			if turns > 100000 {
				t.Fatal("no end", query.Put(q))
			}
		}
		want, _ := denote.All(l, q, entries(names, given))
		plain := slices.DeleteFunc(denote.Sent(want), func(e event.Event) bool { return !event.Plain(e) })
		if !trial.Same(drained, want) || !slices.EqualFunc(sent, plain, event.Same) {
			t.Fatal(query.Put(q), given, shown(drained), shown(want), sent, plain)
		}
		told += min(1, len(want))
	}
	if told < 300 {
		t.Error("too few", told)
	}
}

// entries tells all that the inputs were given, in one order.
func entries(names []string, given [][]event.Event) []denote.Entry {
	var l []denote.Entry
	for _, p := range merge.All(given) {
		l = append(l, denote.Entry{Stream: names[p.Input], E: p.E})
	}
	return l
}
