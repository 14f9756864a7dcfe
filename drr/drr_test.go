package drr

import (
	"math"
	"math/rand"
	"slices"
	"testing"

	"marshalling/api"
)

// round makes one of flows of those quantums, numbered from 1 on.
func round(t *testing.T, quantums ...int) *Drr {
	t.Helper()
	d := New()
	for i, q := range quantums {
		if e := d.Add(i+1, q); e != api.OK {
			t.Fatal(e)
		}
	}
	return d
}

func ids(d *Drr) []int {
	l := []int{}
	for _, f := range d.Flows() {
		l = append(l, f.ID)
	}
	return l
}

// turns tells who goes on, n times, if the costs stay so.
func turns(d *Drr, n int, l ...Cost) []int {
	told := []int{}
	for range n {
		id, ok := d.Turn(l)
		if !ok {
			id = -1
		}
		told = append(told, id)
	}
	return told
}

// TestAdd (P17.1): errors, and places in the round.
func TestAdd(t *testing.T) {
	d := New()
	if len(d.Flows()) != 0 || d.Drop(0) {
		t.Error("new")
	}
	for _, q := range []int{0, -1, 1001, math.MaxInt, math.MinInt} {
		if e := d.Add(1, q); e != api.ErrArg {
			t.Error(q, e)
		}
	}
	if d.Add(7, 1) != api.OK || d.Add(7, 0) != api.ErrArg || d.Add(7, 1) != api.ErrTwice || d.Add(-7, 1000) != api.OK || d.Add(0, 5) != api.OK {
		t.Error("add")
	}
	if l := d.Flows(); !slices.Equal(l, []Flow{{7, 1, 0}, {-7, 1000, 0}, {0, 5, 0}}) {
		t.Error(l)
	}
	d.Flows()[0].ID = 99
	if got := turns(d, 1, Cost{-7, 5}); got[0] != -7 {
		t.Error(got)
	}
	if d.Add(3, 3) != api.OK || !slices.Equal(d.Flows(), []Flow{{-7, 1000, 995}, {0, 5, 0}, {7, 1, 0}, {3, 3, 0}}) {
		t.Error(d.Flows())
	}
}

// TestDrop (P17.1): who is current, and fresh, behind it.
func TestDrop(t *testing.T) {
	d := round(t, 10, 10, 10)
	turns(d, 1, Cost{2, 4})
	if !slices.Equal(ids(d), []int{2, 3, 1}) || d.Drop(4) || !d.Drop(1) || d.Drop(1) || !slices.Equal(d.Flows(), []Flow{{2, 10, 6}, {3, 10, 0}}) {
		t.Error(d.Flows())
	}
	// Not fresh: no more is brought.
	if id, ok := d.Turn([]Cost{{2, 6}}); id != 2 || !ok || d.Flows()[0].Deficit != 0 {
		t.Error(id, d.Flows())
	}
	if !d.Drop(2) || !slices.Equal(ids(d), []int{3}) {
		t.Error(ids(d))
	}
	if got := turns(d, 3, Cost{3, 10}); !slices.Equal(got, []int{3, 3, 3}) {
		t.Error(got)
	}
	if !d.Drop(3) || len(d.Flows()) != 0 || d.Add(3, 5) != api.OK || turns(d, 1, Cost{3, 5})[0] != 3 {
		t.Error("alone")
	}
	// The last one of the list is current: behind it the first one is.
	d = round(t, 10, 10, 10)
	turns(d, 1, Cost{3, 1})
	if !slices.Equal(ids(d), []int{3, 1, 2}) || !d.Drop(3) || !slices.Equal(ids(d), []int{1, 2}) {
		t.Error(ids(d))
	}
	// A current one that is fresh is so behind a drop of the one that was not.
	d = round(t, 10, 10)
	turns(d, 1, Cost{1, 1}, Cost{2, 1})
	d.Drop(1)
	if id, ok := d.Turn([]Cost{{2, 10}}); id != 2 || !ok || d.Flows()[0].Deficit != 0 {
		t.Error(id, ok, d.Flows())
	}
}

// TestTurn (P17.2): what a turn brings, and what is paid.
func TestTurn(t *testing.T) {
	if id, ok := New().Turn([]Cost{{1, 1}}); id != 0 || ok {
		t.Error(id, ok)
	}
	for i, c := range []struct {
		quantums []int
		costs    []Cost
		want     []int
	}{
		{[]int{1, 1}, []Cost{{1, 1}, {2, 1}}, []int{1, 2, 1, 2}}, {[]int{2, 1}, []Cost{{1, 1}, {2, 1}}, []int{1, 1, 2, 1, 1, 2}}, {[]int{3, 2}, []Cost{{1, 2}, {2, 2}}, []int{1, 2, 1, 1, 2, 1, 2}},
		{[]int{1, 1}, []Cost{{1, 5}, {2, 1}}, []int{2, 2, 2, 2, 1, 2}}, {[]int{1, 1}, nil, []int{-1, -1}}, {[]int{1, 1}, []Cost{{3, 1}}, []int{-1}}, {[]int{1, 1}, []Cost{{1, 0}, {2, -5}}, []int{-1}}, {[]int{1, 1}, []Cost{{1, math.MinInt}, {2, math.MaxInt}}, []int{2, 2}},
		{[]int{1, 1}, []Cost{{2, 1}}, []int{2, 2}}, {[]int{1, 1}, []Cost{{1, 0}, {1, 1}, {2, 1}, {2, 0}}, []int{2, 2}}, {[]int{1000, 1}, []Cost{{1, 513}, {2, 1}}, []int{1, 2, 1, 1, 2}},
	} {
		if got := turns(round(t, c.quantums...), len(c.want), c.costs...); !slices.Equal(got, c.want) {
			t.Error(i, got, c.want)
		}
	}
}

// TestDeficit (P17.2): who is not ready keeps nothing; where none is all is 0, and who is current stays so.
func TestDeficit(t *testing.T) {
	d := round(t, 10, 10)
	turns(d, 1, Cost{1, 3}, Cost{2, 1})
	if !slices.Equal(d.Flows(), []Flow{{1, 10, 7}, {2, 10, 0}}) {
		t.Error(d.Flows())
	}
	turns(d, 1, Cost{2, 4})
	if !slices.Equal(d.Flows(), []Flow{{2, 10, 6}, {1, 10, 0}}) {
		t.Error(d.Flows())
	}
	turns(d, 1)
	if !slices.Equal(d.Flows(), []Flow{{2, 10, 0}, {1, 10, 0}}) {
		t.Error(d.Flows())
	}
	// It had its turn, and is not fresh: it pays nothing out of nothing, and the next one goes on.
	if got := turns(d, 1, Cost{1, 1}, Cost{2, 1}); got[0] != 1 {
		t.Error(got)
	}
	// Who can't pay keeps what it has, for the next round.
	d = round(t, 4, 4)
	if got := turns(d, 3, Cost{1, 6}, Cost{2, 4}); !slices.Equal(got, []int{2, 1, 2}) {
		t.Error(got)
	}
	if !slices.Equal(d.Flows(), []Flow{{2, 4, 0}, {1, 4, 2}}) {
		t.Error(d.Flows())
	}
}

// plain is a round as the document says it, the current one first.
type plain struct {
	l     []Flow
	fresh bool
}

func (p *plain) next() {
	p.l = append(p.l[1:len(p.l):len(p.l)], p.l[0])
	p.fresh = true
}

func (p *plain) turn(l []Cost) (int, bool) {
	cost := func(id int) int {
		i := slices.IndexFunc(l, func(c Cost) bool { return c.ID == id })
		if i < 0 || l[i].N < 1 {
			return 0
		}
		return min(l[i].N, 512)
	}
	if !slices.ContainsFunc(p.l, func(f Flow) bool { return cost(f.ID) > 0 }) {
		for i := range p.l {
			p.l[i].Deficit = 0
		}
		return 0, false
	}
	for ; ; p.next() {
		f := &p.l[0]
		if cost(f.ID) == 0 {
			f.Deficit = 0
			continue
		}
		if p.fresh {
			f.Deficit += f.Quantum
			p.fresh = false
		}
		if f.Deficit >= cost(f.ID) {
			f.Deficit -= cost(f.ID)
			return f.ID, true
		}
	}
}

// TestModel (P17.1, P17.2): whatever is done, the round is as the document says.
func TestModel(t *testing.T) {
	r := rand.New(rand.NewSource(1))
	for range 300 {
		d, p := New(), &plain{}
		for range 200 {
			id := r.Intn(6)
			at := slices.IndexFunc(p.l, func(f Flow) bool { return f.ID == id })
			switch r.Intn(8) {
			case 0:
				q := 1 + r.Intn(20)
				if e := d.Add(id, q); (e == api.OK) != (at < 0) {
					t.Fatal(e)
				}
				if at < 0 {
					p.fresh = p.fresh || len(p.l) == 0
					p.l = append(p.l, Flow{id, q, 0})
				}
			case 1:
				if d.Drop(id) != (at >= 0) {
					t.Fatal(id)
				}
				if at >= 0 {
					p.l = slices.Delete(p.l, at, at+1)
					p.fresh = p.fresh || at == 0
				}
			default:
				l := []Cost{}
				for range r.Intn(6) {
					l = append(l, Cost{r.Intn(6), r.Intn(40) - 3})
				}
				got, ok := d.Turn(l)
				if want, also := p.turn(l); got != want || ok != also {
					t.Fatal(got, ok, want, also)
				}
			}
			if !slices.Equal(d.Flows(), p.l) {
				t.Fatal(d.Flows(), p.l)
			}
		}
	}
}

// TestFair (P17.3): of two that are always ready neither is ahead by more than a round brings, and one turn may cost.
func TestFair(t *testing.T) {
	r := rand.New(rand.NewSource(2))
	for range 200 {
		d := New()
		quantums := []int{1 + r.Intn(50), 1 + r.Intn(50), 1 + r.Intn(50)}
		for id, q := range quantums {
			d.Add(id, q)
		}
		spent := make([]float64, 3)
		costs := []Cost{{0, 1 + r.Intn(100)}, {1, 1 + r.Intn(100)}, {2, 1 + r.Intn(100)}}
		for range 500 {
			l := slices.Clone(costs)
			id, ok := d.Turn(l)
			if !ok {
				t.Fatal("none")
			}
			spent[id] += float64(costs[id].N) / float64(quantums[id])
			costs[id].N = 1 + r.Intn(100)
			for a := range 3 {
				for b := range 3 {
					if spent[a]-spent[b] > 2+100/float64(quantums[a])+100/float64(quantums[b]) {
						t.Fatal(spent, quantums)
					}
				}
			}
		}
	}
}
