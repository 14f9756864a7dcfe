// Package trial is for tests alone: it throws queries and entries, and tells by trying all lists what they mean.
package trial

import (
	"strconv"
	"strings"

	"marshalling/denote"
	"marshalling/event"
	"marshalling/stream"
	"marshalling/value"
)

// Dice throws the same for the same seed.
type Dice struct{ state uint64 }

// New tells dice of that seed.
func New(seed int) *Dice { return &Dice{uint64(seed)} }

// Roll throws a number from 0 to n less 1.
func (d *Dice) Roll(n int) int {
	d.state += 0x9e3779b97f4a7c15
	x := d.state
	x = (x ^ x>>30) * 0xbf58476d1ce4e5b9
	x = (x ^ x>>27) * 0x94d049bb133111eb
	return int((x ^ x>>31) >> 1 % uint64(n))
}

// one throws one of l.
func (d *Dice) one(l ...string) string { return l[d.Roll(len(l))] }

// Streams tells three streams, all of which have an x, an Int, and a k, a Text.
func Streams() []stream.Stream {
	x, k := stream.Field{Name: "x", Kind: value.Int}, stream.Field{Name: "k", Kind: value.Text}
	return []stream.Stream{
		{Name: "A", Fields: []stream.Field{x, k}},
		{Name: "B", Fields: []stream.Field{k, x}},
		{Name: "C", Fields: []stream.Field{{Name: "y", Kind: value.Bool}, x, k}},
	}
}

// Query throws the text of a query of that name over streams of those names, each of which has an x and a k, and derives such a one.
func (d *Dice) Query(name string, streams []string) string {
	strict := d.Roll(4) == 0
	text := name + " = "
	if strict {
		text += "STRICT "
	}
	var steps, parts []string
	for i := range 1 + d.Roll(4) {
		v := "v" + strconv.Itoa(i)
		part := strings.Join(d.some(streams), " | ") + " " + v
		not := i > 0 && !strict && d.Roll(3) == 0
		if not {
			part = "!" + part
		} else if d.Roll(3) == 0 {
			part += "+"
		}
		if d.Roll(2) == 0 {
			part += "[" + d.pred(v, steps) + "]"
		}
		if !not {
			steps = append(steps, v)
		}
		parts = append(parts, part)
	}
	text += strings.Join(parts, " ; ") + " WITHIN " + strconv.Itoa(d.Roll(9))
	if by := d.Roll(4); by < 2 {
		text += " BY " + []string{"k", "x"}[by]
	}
	return text + " EMIT x: " + d.number(steps) + ", k: " + d.one(steps...) + ".k"
}

// some throws one or two of l, no two the same.
func (d *Dice) some(l []string) []string {
	i := d.Roll(len(l))
	if d.Roll(3) > 0 || len(l) == 1 {
		return []string{l[i]}
	}
	return []string{l[i], l[(i+1+d.Roll(len(l)-1))%len(l)]}
}

// number throws an Int of those steps.
func (d *Dice) number(steps []string) string {
	a, b := d.one(steps...), d.one(steps...)
	return d.one(a+".x", "#"+a, a+".x + "+b+".x", a+".x % 3", "4 / "+b+".x", "1")
}

// pred throws a predicate of v, behind those steps.
func (d *Dice) pred(v string, steps []string) string {
	w := d.one(append([]string{v}, steps...)...)
	simple := d.one(v+".x > 0", v+".x == "+w+".x", v+".x < "+w+".x + 1", "#"+w+" < 3", v+".k == "+w+".k", v+".k != 'a'", "3 / "+v+".x > "+w+".x", v+".k + "+w+".k < 'bb'", "#"+w+" == "+v+".x")
	if d.Roll(3) > 0 {
		return simple
	}
	return d.one("!("+simple+")", "("+simple+") || "+v+".x == 1", simple+" && "+v+".x >= 0")
}

// Event throws an event of s, of that time.
func (d *Dice) Event(s stream.Stream, now int64) event.Event {
	e := event.Event{Time: now}
	for _, f := range s.Fields {
		v := value.Value{Kind: f.Kind}
		switch f.Kind {
		case value.Int:
			v.N = int64(d.Roll(4))
		case value.Bool:
			v.N = int64(d.Roll(2))
		case value.Text:
			v.S = d.one("a", "b")
		}
		e.V = append(e.V, v)
	}
	return e
}

// Entries throws n entries of l; their times do not fall, if that is asked for, and then all count.
func (d *Dice) Entries(l []stream.Stream, n int, rising bool) []denote.Entry {
	var in []denote.Entry
	now := int64(0)
	for range n {
		s := l[d.Roll(len(l))]
		now += int64(d.Roll(4) / 2)
		x := denote.Entry{Stream: s.Name, E: d.Event(s, now)}
		if !rising {
			x.E.Time = int64(d.Roll(6))
			d.spoil(&x)
		}
		in = append(in, x)
	}
	return in
}

// spoil now and then keeps x from counting.
func (d *Dice) spoil(x *denote.Entry) {
	switch d.Roll(16) {
	case 0:
		x.Stream = "Z"
	case 1:
		x.E.V = x.E.V[1:]
	case 2:
		x.E.Time = -1
	}
}
