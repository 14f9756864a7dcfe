package trial

import (
	"slices"

	"marshalling/check"
	"marshalling/denote"
	"marshalling/event"
	"marshalling/query"
	"marshalling/reckon"
	"marshalling/stream"
	"marshalling/value"
)

// Meaning is a query that may be, and entries: what they mean is told word by word as chapters 13 and 15 have it.
type Meaning struct {
	L  []stream.Stream
	Q  query.Query
	In []denote.Entry
}

// Lists tells all lists for the parts up to the step p, p's not of nothing, as a match has them.
func (m Meaning) Lists(p int) [][][]int {
	var all [][][]int
	m.each(nil, 0, p, 0, func(parts [][]int) {
		if len(parts[p]) > 0 && m.may(parts) {
			all = append(all, parts)
		}
	})
	return all
}

// each tells all ways to give the parts from next on up to p rising indexes from least on.
func (m Meaning) each(parts [][]int, next, p, least int, tell func([][]int)) {
	if next > p {
		tell(slices.Clone(parts))
		return
	}
	if m.Q.Parts[next].Not {
		m.each(append(parts, nil), next+1, p, least, tell)
		return
	}
	m.lists(nil, next, least, func(list []int) {
		m.each(append(slices.Clip(parts), list), next+1, p, list[len(list)-1]+1, tell)
	})
}

// lists tells all lists that the step may be given, by how many they are alone.
func (m Meaning) lists(list []int, step, least int, tell func([]int)) {
	for i := least; i < len(m.In); i++ {
		longer := append(slices.Clone(list), i)
		tell(longer)
		if m.Q.Parts[step].Plus {
			m.lists(longer, step, i+1, tell)
		}
	}
}

// may asks all that must be so of each index.
func (m Meaning) may(parts [][]int) bool {
	first := parts[0][0]
	ahead := -1
	for p, list := range parts {
		for n, i := range list {
			if !m.taken(parts, p, n, first) || ahead >= 0 && m.between(parts[:p], p, n == 0, first, ahead, i) {
				return false
			}
			ahead = i
		}
	}
	return true
}

// taken asks whether the step p may take the index at place n of its list, but for what stands ahead of it.
func (m Meaning) taken(parts [][]int, p, n, first int) bool {
	part, x := m.Q.Parts[p], m.In[parts[p][n]]
	if !denote.Counts(m.L, m.Q, x) || !slices.Contains(part.Streams, x.Stream) || m.by(x) != m.by(m.In[first]) {
		return false
	}
	if x.E.Time < m.In[first].E.Time || x.E.Time > m.In[first].E.Time+m.Q.Within {
		return false
	}
	binds := append(m.Binds(parts[:p]), m.bind(part, parts[p][:n+1]))
	return len(part.Pred) == 0 || reckon.Holds(part.Pred[0], binds)
}

// between asks whether something between the index ahead and i forbids that p takes i.
func (m Meaning) between(ahead [][]int, p int, begins bool, first, last, i int) bool {
	for k := last + 1; k < i; k++ {
		if m.Q.Strict && denote.Counts(m.L, m.Q, m.In[k]) && m.by(m.In[k]) == m.by(m.In[first]) {
			return true
		}
		if begins && m.Guarded(ahead, p, first, k) {
			return true
		}
	}
	return false
}

// Guarded asks whether a Not between the part p and the step ahead of it guards k; behind all parts p is how many there are.
func (m Meaning) Guarded(ahead [][]int, p, first, k int) bool {
	for n := p - 1; n >= 0 && m.Q.Parts[n].Not; n-- {
		not, x := m.Q.Parts[n], m.In[k]
		if !denote.Counts(m.L, m.Q, x) || !slices.Contains(not.Streams, x.Stream) || m.by(x) != m.by(m.In[first]) {
			continue
		}
		binds := append(m.Binds(ahead[:n]), m.bind(not, []int{k}))
		if len(not.Pred) == 0 || reckon.Holds(not.Pred[0], binds) {
			return true
		}
	}
	return false
}

func (m Meaning) by(x denote.Entry) value.Value {
	if m.Q.By == "" {
		return value.Value{}
	}
	s := m.L[stream.Find(m.L, x.Stream)]
	return x.E.V[stream.At(s, m.Q.By)]
}

// Binds tells what those steps bind.
func (m Meaning) Binds(parts [][]int) []reckon.Bind {
	var l []reckon.Bind
	for p, list := range parts {
		if !m.Q.Parts[p].Not {
			l = append(l, m.bind(m.Q.Parts[p], list))
		}
	}
	return l
}

func (m Meaning) bind(part query.Part, list []int) reckon.Bind {
	b := reckon.Bind{Var: part.Var}
	fields := check.Of(m.L, part)
	for _, f := range fields {
		b.Fields = append(b.Fields, f.Name)
	}
	for _, i := range list {
		x := m.In[i]
		b.Events = append(b.Events, check.View(m.L[stream.Find(m.L, x.Stream)], fields, x.E))
	}
	return b
}

// Matches tells what the query means, in whichever order.
func (m Meaning) Matches() []denote.Match {
	last := len(m.Q.Parts) - 1
	for m.Q.Parts[last].Not {
		last--
	}
	var all []denote.Match
	for _, parts := range m.Lists(last) {
		list := parts[last]
		first, at := parts[0][0], m.In[list[len(list)-1]].E.Time
		limit := m.In[first].E.Time + m.Q.Within
		for len(parts) < len(m.Q.Parts) {
			parts = append(parts, nil)
		}
		if query.Waits(m.Q) {
			at = limit
		}
		if e, ok := m.derived(parts, at); ok && !m.late(parts, first, list[len(list)-1], limit) {
			all = append(all, denote.Match{Parts: parts, At: at, E: e})
		}
	}
	return all
}

func (m Meaning) derived(parts [][]int, at int64) (event.Event, bool) {
	e := event.Event{Time: at}
	for _, o := range m.Q.Out {
		v, ok := reckon.Reckon(o.E, m.Binds(parts))
		if !ok {
			return event.Event{}, false
		}
		e.V = append(e.V, v)
	}
	return e, true
}

// late asks whether a Not behind the last step guards an entry behind the last index, within the window.
func (m Meaning) late(parts [][]int, first, last int, limit int64) bool {
	for k := last + 1; k < len(m.In); k++ {
		if m.In[k].E.Time <= limit && m.Guarded(parts, len(m.Q.Parts), first, k) {
			return true
		}
	}
	return false
}

// Same asks whether two lists of matches are the same.
func Same(a, b []denote.Match) bool {
	return slices.EqualFunc(a, b, func(x, y denote.Match) bool {
		return denote.Order(x.Parts, y.Parts) == 0 && x.At == y.At && event.Same(x.E, y.E)
	})
}
