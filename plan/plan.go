// Package plan makes a query ready to be held against entries: what chapters 13 and 15 ask of one alike.
package plan

import (
	"slices"

	"marshalling/api"
	"marshalling/check"
	"marshalling/event"
	"marshalling/query"
	"marshalling/reckon"
	"marshalling/stream"
	"marshalling/value"
)

// Part is a part of a query, and the fields in which it sees its entries.
type Part struct {
	query.Part
	fields []stream.Field
	names  []string
}

// Step is a part that takes entries.
type Step struct {
	Part
	Place int    // of all parts of the query
	Nots  []Part // those between the step ahead of it and it
}

// Plan is a query over its streams.
type Plan struct {
	Derived stream.Stream
	Steps   []Step
	Tail    []Part // the Nots behind the last step
	query.Query
	inputs []stream.Stream
}

// New tells the plan of q; the error of Check (chapter 11), if it may not be.
func New(l []stream.Stream, q query.Query) (*Plan, api.Errno) {
	derived, e := check.Check(l, q)
	if e != api.OK {
		return nil, e
	}
	p := &Plan{Derived: derived, Query: q}
	for _, name := range query.Inputs(q) {
		p.inputs = append(p.inputs, l[stream.Find(l, name)])
	}
	for place, part := range q.Parts {
		own := newPart(l, part)
		if part.Not {
			p.Tail = append(p.Tail, own)
			continue
		}
		p.Steps = append(p.Steps, Step{Part: own, Place: place, Nots: p.Tail})
		p.Tail = nil
	}
	return p, api.OK
}

func newPart(l []stream.Stream, part query.Part) Part {
	own := Part{Part: part, fields: check.Of(l, part)}
	for _, f := range own.fields {
		own.names = append(own.names, f.Name)
	}
	return own
}

// Waits asks whether a match is told only once its window is over.
func (p *Plan) Waits() bool { return len(p.Tail) > 0 }

// IsLast asks whether k is the last of the steps.
func (p *Plan) IsLast(k int) bool { return k == len(p.Steps)-1 }

// Counts asks whether an entry of that stream turns anything.
func (p *Plan) Counts(name string, e event.Event) bool {
	i := stream.Find(p.inputs, name)
	return i >= 0 && event.Fits(p.inputs[i], e) == api.OK
}

// Key tells the value by which an entry that counts goes with others; nothing, where all go together.
func (p *Plan) Key(name string, e event.Event) value.Value {
	if p.By == "" {
		return value.Value{}
	}
	return e.V[stream.At(p.input(name), p.By)]
}

func (p *Plan) input(name string) stream.Stream {
	return p.inputs[stream.Find(p.inputs, name)]
}

// View tells the event of an entry that counts as that part sees it.
func (p *Plan) View(part Part, name string, e event.Event) event.Event {
	return check.View(p.input(name), part.fields, e)
}

// Takes asks whether entries of that stream are the part's.
func (part Part) Takes(name string) bool { return slices.Contains(part.Streams, name) }

// Bind tells what the part's Var stands for.
func (part Part) Bind(events []event.Event) reckon.Bind {
	return reckon.Bind{Var: part.Var, Fields: part.names, Events: events}
}

// Holds asks whether the part's Pred, if there is one, holds of what the steps ahead bind, and behind that of its own.
func (part Part) Holds(ahead []reckon.Bind, own reckon.Bind) bool {
	return len(part.Pred) == 0 || reckon.Holds(part.Pred[0], slices.Concat(ahead, []reckon.Bind{own}))
}

// Guarded asks whether one of nots finds that entry, which counts, and goes with the others.
func (p *Plan) Guarded(nots []Part, ahead []reckon.Bind, name string, e event.Event) bool {
	return slices.ContainsFunc(nots, func(not Part) bool {
		return not.Takes(name) && not.Holds(ahead, not.Bind([]event.Event{p.View(not, name, e)}))
	})
}

// Emit tells the values that are derived of what all steps bind; none, if one of them can't be reckoned.
func (p *Plan) Emit(l []reckon.Bind) ([]value.Value, bool) {
	var values []value.Value
	for _, o := range p.Out {
		v, ok := reckon.Reckon(o.E, l)
		if !ok {
			return nil, false
		}
		values = append(values, v)
	}
	return values, true
}
