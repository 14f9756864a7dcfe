package script

import (
	"slices"
	"strconv"
	"strings"

	"marshalling/api"
	"marshalling/drive"
	"marshalling/engine"
	"marshalling/event"
	"marshalling/value"
)

// deed does what a line says, and tells its answer; words are what stands between the line's spaces.
type deed func(b *Box, words []string) string

// deeds tells what each first word does.
func deeds() map[string]deed {
	return map[string]deed{
		"register": (*Box).register,
		"drop":     (*Box).drop,
		"close":    (*Box).close,
		"pause":    (*Box).pause,
		"resume":   (*Box).resume,
		"step":     (*Box).step,
		"mark":     (*Box).mark,
		"offer":    (*Box).offer,
		"tick":     (*Box).tick,
		"run":      (*Box).run,
		"drain":    (*Box).drain,
		"ready":    (*Box).ready,
		"quiet":    (*Box).quiet,
		"status":   (*Box).status,
	}
}

// Do does what line says, and tells its answer.
func (b *Box) Do(line string) string {
	words := strings.Split(line, " ")
	do, ok := deeds()[words[0]]
	// What is registered may have spaces of any kind: that is seen there.
	if !ok || words[0] != "register" && slices.Contains(words, "") {
		return wrong()
	}
	return do(b, words)
}

// wrong is the answer to a line that says nothing.
func wrong() string { return answer(api.ErrArg) }

// answer tells an error, or that there is none.
func answer(e api.Errno) string {
	if e == api.OK {
		return "ok"
	}
	return "error " + strconv.Itoa(int(e))
}

func (b *Box) register(words []string) string {
	if len(words) < 3 {
		return wrong()
	}
	quantum, ok := Number(words[1])
	if !ok {
		return wrong()
	}
	texts := strings.Split(strings.Join(words[2:], " "), "@")
	which, at, e := b.engine.Register(texts, int(quantum))
	if e != api.OK {
		return answer(e) + " in " + strconv.Itoa(which) + " at " + strconv.Itoa(at)
	}
	return "ok"
}

// named does to the name of a line of two words what is handed in.
func named(words []string, do func(name string) api.Errno) string {
	if len(words) != 2 {
		return wrong()
	}
	return answer(do(words[1]))
}

func (b *Box) drop(words []string) string { return named(words, b.engine.Unregister) }

func (b *Box) close(words []string) string { return named(words, b.engine.Close) }

func (b *Box) pause(words []string) string { return named(words, b.engine.Pause) }

func (b *Box) resume(words []string) string { return named(words, b.engine.Resume) }

func (b *Box) step(words []string) string { return named(words, b.engine.Step) }

func (b *Box) mark(words []string) string {
	if len(words) != 3 {
		return wrong()
	}
	now, ok := Number(words[2])
	if !ok {
		return wrong()
	}
	return answer(b.engine.Mark(words[1], now))
}

func (b *Box) offer(words []string) string {
	if len(words) < 3 {
		return wrong()
	}
	now, ok := Number(words[2])
	if !ok {
		return wrong()
	}
	var values []value.Value
	for _, w := range words[3:] {
		v, ok := Value(w)
		if !ok {
			return wrong()
		}
		values = append(values, v)
	}
	return answer(b.engine.Offer(words[1], event.Event{Time: now, V: values}))
}

func (b *Box) tick(words []string) string {
	if len(words) != 1 {
		return wrong()
	}
	name, ok := b.engine.Tick()
	if !ok {
		return "idle"
	}
	return "ok " + name
}

func (b *Box) run(words []string) string {
	if len(words) != 2 {
		return wrong()
	}
	most, ok := Number(words[1])
	if !ok {
		return wrong()
	}
	told, ticks := drive.Run(b.engine, int(most))
	l := []string{"ok", strconv.Itoa(ticks)}
	for _, x := range told {
		l = append(l, x.Query+":("+Text(x.M)+")")
	}
	return strings.Join(l, " ")
}

func (b *Box) drain(words []string) string {
	if len(words) != 3 {
		return wrong()
	}
	most, ok := Number(words[2])
	if !ok {
		return wrong()
	}
	matches, e := b.engine.Drain(words[1], int(most))
	if e != api.OK {
		return answer(e)
	}
	l := []string{"ok"}
	for _, m := range matches {
		l = append(l, "("+Text(m)+")")
	}
	return strings.Join(l, " ")
}

func (b *Box) ready(words []string) string {
	if len(words) != 1 {
		return wrong()
	}
	return strings.Join(slices.Concat([]string{"ok"}, b.engine.Ready()), " ")
}

func (b *Box) quiet(words []string) string {
	if len(words) != 1 {
		return wrong()
	}
	if b.engine.Quiet() {
		return "yes"
	}
	return "no"
}

func (b *Box) status(words []string) string {
	if len(words) != 2 {
		return wrong()
	}
	s, ok := b.engine.Status(words[1])
	if !ok {
		return answer(api.ErrNone)
	}
	return numbers(s) + states(s)
}

func numbers(s engine.Status) string {
	l := []string{
		"rank", strconv.Itoa(s.Rank), "runs", strconv.Itoa(s.Runs), "held", strconv.Itoa(s.Held),
		"staged", strconv.Itoa(s.Staged), "waiting", strconv.Itoa(s.Waiting), "deficit", strconv.Itoa(s.Deficit),
	}
	return strings.Join(l, " ")
}

func states(s engine.Status) string {
	text := ""
	if s.Paused {
		text += " paused"
	}
	if s.Over {
		text += " over"
	}
	if s.Done {
		text += " done"
	}
	return text
}
