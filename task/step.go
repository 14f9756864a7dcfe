package task

import (
	"slices"

	"marshalling/api"
	"marshalling/denote"
	"marshalling/event"
	"marshalling/merge"
)

// staged is a match and its event, or a mark, that is to leave the stage.
type staged struct {
	item event.Item
	m    denote.Match
	sent bool // the item is to be put into out
}

// The steps that can be made.
const (
	nothing = iota
	leaveStage
	readMark
	readEvent
	lookAround
	closeAll
)

// next tells the step that can be made, and the input that it reads, if it does.
func (t *Task) next() (int, input) {
	if t.done {
		return nothing, input{}
	}
	if len(t.stage) > 0 {
		if t.hasRoom(t.stage[0]) {
			return leaveStage, input{}
		}
		return nothing, input{}
	}
	for _, in := range t.inputs {
		if x, ok := in.Peek(in.reader); ok && x.Mark {
			return readMark, in
		}
	}
	heads := t.heads()
	if i := merge.Pick(heads); i >= 0 {
		return readEvent, t.inputs[i]
	}
	if low, ok := merge.Low(heads); ok && t.isNews(low) {
		return lookAround, input{}
	}
	if slices.ContainsFunc(t.inputs, func(in input) bool { return !in.Ended(in.reader) }) {
		return nothing, input{}
	}
	return closeAll, input{}
}

// hasRoom asks whether x can leave the stage.
func (t *Task) hasRoom(x staged) bool {
	return (x.item.Mark || len(t.sink) < t.room) && (!x.sent || t.out.Free() > 0)
}

// isNews asks whether a mark of that time would tell those behind out anything.
func (t *Task) isNews(now int64) bool {
	return now > t.known && now <= api.MaxTime
}

// Step makes the step that can be made; false, if there is none.
func (t *Task) Step() bool {
	can, in := t.next()
	switch can {
	case nothing:
		return false
	case leaveStage:
		t.leave()
	case readMark:
		in.Next(in.reader)
		t.look()
	case readEvent:
		x, _ := in.Next(in.reader)
		told, _ := t.Take(denote.Entry{Stream: in.name, E: x.E})
		t.put(told)
		t.look()
	case lookAround:
		t.look()
	case closeAll:
		t.put(t.Close())
	}
	if t.Closed() && len(t.stage) == 0 {
		t.finish()
	}
	return true
}

// leave lets the first of the stage go where it is to go.
func (t *Task) leave() {
	x := t.stage[0]
	t.stage[0] = staged{}
	t.stage = t.stage[1:]
	if !x.item.Mark {
		t.sink = append(t.sink, x.m)
	}
	if x.sent {
		t.out.Put(x.item)
	}
}

// look lets the machine, and those behind out, know how far the inputs have come.
func (t *Task) look() {
	low, ok := merge.Low(t.heads())
	if !ok {
		return
	}
	if low > t.Now() && low <= api.MaxTime {
		told, _ := t.Mark(low)
		t.put(told)
	}
	if t.isNews(low) {
		mark := event.Item{Mark: true, E: event.Event{Time: low}}
		t.stage = append(t.stage, staged{item: mark, sent: true})
		t.known = low
	}
}

// put stages matches.
func (t *Task) put(l []denote.Match) {
	for _, m := range l {
		x := staged{item: event.Item{E: m.E}, m: m, sent: m.At >= t.known && event.Plain(m.E)}
		if x.sent {
			t.known = m.At + 1
		}
		t.stage = append(t.stage, x)
	}
}
