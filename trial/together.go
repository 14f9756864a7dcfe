package trial

import (
	"slices"

	"marshalling/check"
	"marshalling/denote"
	"marshalling/event"
	"marshalling/merge"
	"marshalling/query"
	"marshalling/stream"
)

// Together tells what each of qs means of what the sources were given; each of qs stands behind those that it reads.
func Together(l []stream.Stream, given map[string][]event.Event, qs []query.Query) map[string][]denote.Match {
	there, events := slices.Clone(l), map[string][]event.Event{}
	for _, s := range l {
		events[s.Name] = given[s.Name]
	}
	told := map[string][]denote.Match{}
	for _, q := range qs {
		var streams []stream.Stream
		var ins [][]event.Event
		for _, name := range query.Inputs(q) {
			streams = append(streams, there[stream.Find(there, name)])
			ins = append(ins, events[name])
		}
		var in []denote.Entry
		for _, p := range merge.All(ins) {
			in = append(in, denote.Entry{Stream: query.Inputs(q)[p.Input], E: p.E})
		}
		derived, _ := check.Check(streams, q)
		told[q.Name], _ = denote.All(streams, q, in)
		events[q.Name] = slices.DeleteFunc(denote.Sent(told[q.Name]), func(e event.Event) bool { return !event.Plain(e) })
		there = append(there, derived)
	}
	return told
}

// Queries throws the texts of some queries over l, of which each may read those ahead of it, too.
func (d *Dice) Queries(l []stream.Stream) []string {
	var names, texts []string
	for _, s := range l {
		names = append(names, s.Name)
	}
	for i := range 1 + d.Roll(4) {
		name := "q" + string([]byte{byte('0' + i)})
		texts = append(texts, d.Query(name, names))
		names = append(names, name)
	}
	return texts
}
