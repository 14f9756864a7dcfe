package machine

import (
	"slices"

	"marshalling/denote"
	"marshalling/hold"
	"marshalling/plan"
	"marshalling/reckon"
	"marshalling/value"
)

// run is the lists of some steps, from the first on, to which more may come.
type run struct {
	step  int // the last one that has a list
	first int64
	lists [][]int
	binds []reckon.Bind
	shut  bool // a Not found something: the next step may take nothing, until this one takes more
}

// advance lets all runs that go with x take it, and tells the matches that it makes, if they do not wait.
func (m *Machine) advance(index int, x denote.Entry) []denote.Match {
	key := m.plan.Key(x.Stream, x.E)
	m.cut(key, x)
	var kept, whole []run
	take := func(r run, k int) {
		grown, ok := m.take(r, k, index, x)
		if !ok {
			return
		}
		if m.plan.IsLast(k) {
			whole = append(whole, grown)
		}
		if m.plan.Steps[k].Plus || !m.plan.IsLast(k) {
			kept = append(kept, grown)
		}
	}
	for _, r := range m.runs[key] {
		if m.plan.Steps[r.step].Plus {
			take(r, r.step)
		}
		if !m.plan.IsLast(r.step) && !r.shut {
			take(r, r.step+1)
		}
		if r, ok := m.left(r, x); ok {
			kept = append(kept, r)
		}
	}
	take(run{first: x.E.Time}, 0)
	if len(kept) > 0 {
		m.runs[key] = kept
	} else {
		delete(m.runs, key)
	}
	return m.settle(key, whole)
}

// take tells r with that entry behind all, in step k's list, if step k may take it.
func (m *Machine) take(r run, k, index int, x denote.Entry) (run, bool) {
	step := m.plan.Steps[k]
	if !step.Takes(x.Stream) {
		return run{}, false
	}
	grown := run{step: k, first: r.first, lists: slices.Clone(r.lists), binds: slices.Clone(r.binds)}
	if k == len(grown.lists) {
		grown.lists = append(grown.lists, nil)
		grown.binds = append(grown.binds, step.Bind(nil))
	}
	// Where r is no more behind this entry the longer list may have its room; else each has its own.
	shares := m.plan.Strict
	grown.lists[k] = behind(grown.lists[k], index, shares)
	grown.binds[k].Events = behind(grown.binds[k].Events, m.plan.View(step.Part, x.Stream, x.E), shares)
	return grown, step.Holds(grown.binds[:k], grown.binds[k])
}

func behind[T any](l []T, x T, shares bool) []T {
	if !shares {
		l = slices.Clip(l)
	}
	return append(l, x)
}

// left tells what x leaves of r, if it did not take it.
func (m *Machine) left(r run, x denote.Entry) (run, bool) {
	if m.plan.Strict {
		return run{}, false
	}
	if m.plan.IsLast(r.step) || r.shut {
		return r, true
	}
	if m.plan.Guarded(m.plan.Steps[r.step+1].Nots, r.binds, x.Stream, x.E) {
		r.shut = true
	}
	return r, !r.shut || m.plan.Steps[r.step].Plus
}

// cut lets go of the waits that x forbids.
func (m *Machine) cut(key value.Value, x denote.Entry) {
	if !slices.ContainsFunc(m.plan.Tail, func(not plan.Part) bool { return not.Takes(x.Stream) }) {
		return
	}
	for i := m.waits.Len() - 1; i >= 0; i-- {
		w, _ := m.waits.At(i)
		if w.X.key == key && m.plan.Guarded(m.plan.Tail, w.X.binds, x.Stream, x.E) {
			m.waits.Cut(i)
		}
	}
}

// settle tells the matches that those runs are, in order; those of a query that waits are held.
func (m *Machine) settle(key value.Value, whole []run) []denote.Match {
	var told []denote.Match
	for _, r := range whole {
		values, ok := m.plan.Emit(r.binds)
		if !ok {
			continue
		}
		if m.plan.Waits() {
			m.waits.Add(hold.Wait[pending]{Until: r.first + m.plan.Within, Parts: m.parts(r), X: pending{key, r.binds, values}})
		} else {
			told = append(told, match(m.parts(r), m.now, values))
		}
	}
	slices.SortFunc(told, func(a, b denote.Match) int { return denote.Order(a.Parts, b.Parts) })
	return told
}

// parts tells the lists of r, by the query's parts, as copies.
func (m *Machine) parts(r run) [][]int {
	parts := make([][]int, len(m.plan.Parts))
	for k, step := range m.plan.Steps {
		parts[step.Place] = slices.Clone(r.lists[k])
	}
	return parts
}
