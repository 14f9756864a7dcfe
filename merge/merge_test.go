package merge

import (
	"math"
	"math/rand"
	"slices"
	"testing"

	"marshalling/event"
	"marshalling/value"
)

func has(now int64) Head { return Head{Has: true, Time: now} }

func low(now int64) Head { return Head{Low: now} }

func done() Head { return Head{Done: true} }

// TestPick (P16.2): the least time, the first of one time; none where another might come ahead.
func TestPick(t *testing.T) {
	odd := Head{Has: true, Time: 4, Low: 1, Done: true}
	for i, c := range []struct {
		l    []Head
		want int
	}{
		{nil, -1}, {[]Head{low(9)}, -1}, {[]Head{done()}, -1}, {[]Head{low(9), done()}, -1}, {[]Head{has(3)}, 0}, {[]Head{has(3), low(3)}, 0}, {[]Head{low(3), has(3)}, -1}, {[]Head{low(4), has(3)}, 1},
		{[]Head{has(3), low(2)}, -1}, {[]Head{low(2), has(3)}, -1}, {[]Head{has(3), has(2)}, 1}, {[]Head{has(2), has(2)}, 0}, {[]Head{done(), has(3), done()}, 1}, {[]Head{{Done: true, Low: 1}, has(3)}, 1},
		{[]Head{has(5), has(3), has(3), low(3)}, 1}, {[]Head{low(4), has(3), low(3)}, 1}, {[]Head{has(5), low(3), has(3)}, -1}, {[]Head{has(5), low(4)}, -1}, {[]Head{odd, has(5)}, 0}, {[]Head{low(4), odd}, -1}, {[]Head{odd, low(4)}, 0},
		{[]Head{has(math.MaxInt64), low(math.MaxInt64)}, 0}, {[]Head{has(math.MinInt64), low(math.MinInt64)}, 0}, {[]Head{{Time: 1}, has(math.MaxInt64)}, -1}, {[]Head{has(0), has(math.MinInt64)}, 1}, {[]Head{{Time: -9, Low: 7}, has(5)}, 1},
	} {
		if got := Pick(c.l); got != c.want {
			t.Error(i, c.l, got)
		}
	}
}

// TestLow (P16.2): the least time below which nothing comes.
func TestLow(t *testing.T) {
	for i, c := range []struct {
		l    []Head
		want int64
		ok   bool
	}{
		{nil, 0, false}, {[]Head{done(), {Done: true, Low: 5, Time: 3}}, 0, false}, {[]Head{has(3)}, 3, true}, {[]Head{low(3)}, 3, true}, {[]Head{has(3), low(2), done()}, 2, true}, {[]Head{done(), has(3), low(4)}, 3, true},
		{[]Head{{Has: true, Time: 4, Low: 1, Done: true}}, 4, true}, {[]Head{{Time: 1, Low: 6}}, 6, true}, {[]Head{low(math.MinInt64), has(0)}, math.MinInt64, true}, {[]Head{has(math.MaxInt64)}, math.MaxInt64, true}, {[]Head{has(0), done()}, 0, true},
	} {
		if got, ok := Low(c.l); got != c.want || ok != c.ok {
			t.Error(i, c.l, got, ok)
		}
	}
}

func at(now int64, n int) event.Event {
	return event.Event{Time: now, V: []value.Value{{Kind: value.Int, N: int64(n)}}}
}

func same(a, b Pair) bool { return a.Input == b.Input && event.Same(a.E, b.E) }

// plain tells All as the document says it.
func plain(ins [][]event.Event) []Pair {
	left := slices.Clone(ins)
	l := []Pair{}
	for {
		first := -1
		for i, in := range left {
			if len(in) > 0 && (first < 0 || in[0].Time < left[first][0].Time) {
				first = i
			}
		}
		if first < 0 {
			return l
		}
		l = append(l, Pair{first, left[first][0]})
		left[first] = left[first][1:]
	}
}

// TestAll (P16.3): the least first again and again, whatever the times.
func TestAll(t *testing.T) {
	if len(All(nil)) != 0 || len(All(make([][]event.Event, 5))) != 0 {
		t.Error("nothing")
	}
	r := rand.New(rand.NewSource(1))
	for range 3000 {
		ins := make([][]event.Event, r.Intn(7))
		for i := range ins {
			for n := range r.Intn(5) {
				ins[i] = append(ins[i], at(int64(r.Intn(9)-4), 10*i+n))
			}
		}
		if got := All(ins); !slices.EqualFunc(got, plain(ins), same) {
			t.Fatal(ins, got)
		}
	}
	odd := All([][]event.Event{{at(math.MaxInt64, 0), at(-5, 1)}, {at(math.MinInt64, 2), at(math.MaxInt64, 3)}})
	if !slices.EqualFunc(odd, []Pair{{1, at(math.MinInt64, 2)}, {0, at(math.MaxInt64, 0)}, {0, at(-5, 1)}, {1, at(math.MaxInt64, 3)}}, same) {
		t.Error(odd)
	}
}

// TestBeginning (P16.4): of rising inputs All is sorted; whatever is known of them, what is picked is its beginning.
func TestBeginning(t *testing.T) {
	r := rand.New(rand.NewSource(2))
	for range 2000 {
		ins := make([][]event.Event, 1+r.Intn(4))
		for i := range ins {
			now := int64(0)
			for n := range r.Intn(6) {
				now += int64(1 + r.Intn(3))
				ins[i] = append(ins[i], at(now, n))
			}
		}
		all := All(ins)
		if !slices.IsSortedFunc(all, func(a, b Pair) int {
			if a.E.Time != b.E.Time {
				return int(a.E.Time - b.E.Time)
			}
			return a.Input - b.Input
		}) {
			t.Fatal(all)
		}
		known, read := make([]int, len(ins)), make([]int, len(ins))
		picked := []Pair{}
		for range 60 {
			if k := r.Intn(len(ins)); known[k] <= len(ins[k]) {
				known[k]++
			}
			if i := Pick(heads(ins, known, read)); i >= 0 {
				picked = append(picked, Pair{i, ins[i][read[i]]})
				read[i]++
			}
			if !slices.EqualFunc(picked, all[:len(picked)], same) {
				t.Fatal(picked, all)
			}
		}
	}
}

// heads tells what is known of inputs, of each of which so many events are known (one more: that it has ended), and so many read.
func heads(ins [][]event.Event, known, read []int) []Head {
	l := []Head{}
	for i, in := range ins {
		h := Head{Done: known[i] > len(in)}
		if read[i] > 0 {
			h.Low = in[read[i]-1].Time + 1
		}
		if read[i] < min(known[i], len(in)) {
			h.Has, h.Time = true, in[read[i]].Time
		}
		l = append(l, h)
	}
	return l
}

// TestMany (P1): very many inputs.
func TestMany(t *testing.T) {
	ins := [][]event.Event{}
	for i := range 100000 {
		ins = append(ins, []event.Event{{Time: int64(i * 7919 % 100000)}})
	}
	if all := All(ins); len(all) != 100000 || all[99999].E.Time != 99999 {
		t.Error(len(all))
	}
}
