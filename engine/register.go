package engine

import (
	"marshalling/api"
	"marshalling/check"
	"marshalling/graph"
	"marshalling/parse"
	"marshalling/query"
	"marshalling/ring"
	"marshalling/stream"
	"marshalling/task"
)

// Register lets the queries of those texts run; which and at tell the text, and the place in it, that is wrong.
func (g *Engine) Register(texts []string, quantum int) (which, at int, e api.Errno) {
	if quantum < 1 || quantum > api.MaxQuantum || len(texts) == 0 {
		return 0, 0, api.ErrArg
	}
	if len(texts) > api.MaxQueries-len(g.works) {
		return 0, 0, api.ErrFull
	}
	var qs []query.Query
	for i, text := range texts {
		q, at, e := parse.Parse(text)
		if e != api.OK {
			return i, at, e
		}
		qs = append(qs, q)
	}
	if which, e := g.unlike(qs); e != api.OK {
		return which, 0, e
	}
	order, which, e := inOrder(qs)
	if e != api.OK {
		return which, 0, e
	}
	if which, e := g.checked(qs, order); e != api.OK {
		return which, 0, e
	}
	for _, i := range order {
		g.install(qs[i], quantum)
	}
	return 0, 0, api.OK
}

// unlike tells the first of qs whose name is there already.
func (g *Engine) unlike(qs []query.Query) (int, api.Errno) {
	met := map[string]bool{}
	for i, q := range qs {
		// Each source, and each query, has a ring.
		if _, ok := g.rings[q.Name]; ok || met[q.Name] {
			return i, api.ErrTwice
		}
		met[q.Name] = true
	}
	return 0, api.OK
}

// inOrder tells the places of qs, each behind those that it comes of; or the first that comes of itself.
func inOrder(qs []query.Query) (order []int, which int, e api.Errno) {
	var nodes []graph.Node
	for _, q := range qs {
		nodes = append(nodes, nodeOf(q))
	}
	if loops := graph.Loops(nodes); len(loops) > 0 {
		return nil, loops[0], api.ErrCycle
	}
	order, e = graph.Order(nodes)
	return order, 0, e
}

// checked tells the first of qs, in that order, that may not be.
func (g *Engine) checked(qs []query.Query, order []int) (int, api.Errno) {
	there := g.streams()
	for _, i := range order {
		derived, e := check.Check(inputsOf(qs[i], there), qs[i])
		if e != api.OK {
			return i, e
		}
		there[derived.Name] = derived
	}
	return 0, api.OK
}

// streams tells all streams that there are: sources, and what queries derive.
func (g *Engine) streams() map[string]stream.Stream {
	there := map[string]stream.Stream{}
	for _, s := range g.config.Streams {
		there[s.Name] = s
	}
	for _, w := range g.works {
		there[w.query.Name] = w.Derived()
	}
	return there
}

// inputsOf tells those of the inputs of q that there are.
func inputsOf(q query.Query, there map[string]stream.Stream) []stream.Stream {
	var l []stream.Stream
	for _, name := range query.Inputs(q) {
		if s, ok := there[name]; ok {
			l = append(l, s)
		}
	}
	return l
}

// install lets q, which may be, run.
func (g *Engine) install(q query.Query, quantum int) {
	var in []*ring.Ring
	for _, name := range query.Inputs(q) {
		in = append(in, g.rings[name])
	}
	out := g.newRing()
	// All that it could tell was asked before; and there are fewer queries than a ring may have readers.
	t, _ := task.New(inputsOf(q, g.streams()), q, g.config.Runs, g.config.Sink, in, out)
	g.numbers++
	g.rings[q.Name] = out
	g.works = append(g.works, &work{Task: t, number: g.numbers, query: q})
	g.turns.Add(g.numbers, quantum)
}
