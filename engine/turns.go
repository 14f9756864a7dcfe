package engine

import (
	"marshalling/api"
	"marshalling/drr"
)

// ready asks whether w may make a step.
func (w *work) ready() bool {
	return !w.paused && w.Ready()
}

// Pause keeps that query from making steps.
func (g *Engine) Pause(name string) api.Errno {
	return g.turn(name, true)
}

// Resume lets it make steps again.
func (g *Engine) Resume(name string) api.Errno {
	return g.turn(name, false)
}

func (g *Engine) turn(name string, paused bool) api.Errno {
	w, ok := g.find(name)
	if !ok {
		return api.ErrNone
	}
	if w.paused == paused {
		return api.ErrState
	}
	w.paused = paused
	return api.OK
}

// Ready tells the names of the queries that may make a step.
func (g *Engine) Ready() []string {
	var l []string
	for _, w := range g.works {
		if w.ready() {
			l = append(l, w.query.Name)
		}
	}
	return l
}

// Step lets that query make a step.
func (g *Engine) Step(name string) api.Errno {
	w, ok := g.find(name)
	if !ok {
		return api.ErrNone
	}
	if !w.ready() {
		return api.ErrState
	}
	w.Step()
	return api.OK
}

// Tick lets the query whose turn it is make a step, and tells its name; false, if none is ready.
func (g *Engine) Tick() (string, bool) {
	var costs []drr.Cost
	for _, w := range g.works {
		if w.ready() {
			costs = append(costs, drr.Cost{ID: w.number, N: w.Cost()})
		}
	}
	number, ok := g.turns.Turn(costs)
	if !ok {
		return "", false
	}
	for _, w := range g.works {
		if w.number == number {
			w.Step()
			return w.query.Name, true
		}
	}
	return "", false
}
