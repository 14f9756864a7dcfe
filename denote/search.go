package denote

import (
	"slices"

	"marshalling/event"
	"marshalling/plan"
	"marshalling/reckon"
)

// spot is an entry that counts, and its index.
type spot struct {
	index int
	Entry
}

// search goes through one group of entries, from a first one on.
type search struct {
	*plan.Plan
	group []spot
	least []int64 // of each place the least Time from there on
	tell  func(Match)

	first, limit int64   // the least and the greatest Time that may be taken
	final        int     // the last place that the last step may take
	lists        [][]int // of each step
	binds        []reckon.Bind
}

func newSearch(p *plan.Plan, group []spot, tell func(Match)) *search {
	s := &search{Plan: p, group: group, tell: tell, least: make([]int64, len(group)), lists: make([][]int, len(p.Steps))}
	for _, step := range p.Steps {
		s.binds = append(s.binds, step.Bind(nil))
	}
	for i := len(group) - 1; i >= 0; i-- {
		s.least[i] = group[i].E.Time
		if i+1 < len(group) {
			s.least[i] = min(s.least[i], s.least[i+1])
		}
	}
	return s
}

// start tells the matches whose first entry stands at place i.
func (s *search) start(i int) {
	s.first = s.group[i].E.Time
	s.limit = s.first + s.Within
	s.final = -1
	last := s.Steps[len(s.Steps)-1]
	for j := i; s.inReach(j); j++ {
		if last.Takes(s.group[j].Stream) && s.inWindow(j) {
			s.final = j
		}
	}
	// Where the last step can take nothing all ways are in vain, and there may be very many.
	if s.final >= 0 {
		s.with(0, i, func() { s.grow(0, i) })
	}
}

// inReach asks whether anything at place j, or behind it, could stand within the window.
func (s *search) inReach(j int) bool {
	return j < len(s.group) && s.least[j] <= s.limit
}

func (s *search) inWindow(j int) bool {
	now := s.group[j].E.Time
	return now >= s.first && now <= s.limit
}

// with lets step k take the entry at place j, if it may, and goes on from there.
func (s *search) with(k, j int, goOn func()) {
	step, x := s.Steps[k], s.group[j]
	if !step.Takes(x.Stream) || !s.inWindow(j) {
		return
	}
	list, events := s.lists[k], s.binds[k].Events
	s.lists[k] = append(list, x.index)
	s.binds[k].Events = append(events, s.View(step.Part, x.Stream, x.E))
	if step.Holds(s.binds[:k], s.binds[k]) {
		goOn()
	}
	s.lists[k], s.binds[k].Events = list, events
}

// grow tries all ways to go on behind place at, which step k took last.
func (s *search) grow(k, at int) {
	isLast := s.IsLast(k)
	if isLast {
		s.finish(at)
	} else if at >= s.final {
		return
	}
	repeats, goes := s.Steps[k].Plus, !isLast
	for j := at + 1; (repeats || goes) && s.inReach(j); j++ {
		if repeats {
			s.with(k, j, func() { s.grow(k, j) })
		}
		if goes {
			s.with(k+1, j, func() { s.grow(k+1, j) })
		}
		if s.Strict {
			return
		}
		goes = goes && !s.guarded(s.Steps[k+1].Nots, k, j)
	}
}

// guarded asks whether one of nots, which stand behind step k, finds the entry at place j.
func (s *search) guarded(nots []plan.Part, k, j int) bool {
	return s.Guarded(nots, s.binds[:k+1], s.group[j].Stream, s.group[j].E)
}

// finish tells the match that all steps have made, place at being the last one, if nothing behind it forbids it.
func (s *search) finish(at int) {
	for j := at + 1; s.Waits() && s.inReach(j); j++ {
		if s.group[j].E.Time <= s.limit && s.guarded(s.Tail, len(s.Steps)-1, j) {
			return
		}
	}
	values, ok := s.Emit(s.binds)
	if !ok {
		return
	}
	m := Match{Parts: make([][]int, len(s.Parts)), At: s.group[at].E.Time}
	for k, step := range s.Steps {
		m.Parts[step.Place] = slices.Clone(s.lists[k])
	}
	if s.Waits() {
		m.At = s.limit
	}
	m.E = event.Event{Time: m.At, V: values}
	s.tell(m)
}
