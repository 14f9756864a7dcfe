package ring

import (
	"math"
	"math/rand"
	"testing"

	"marshalling/api"
	"marshalling/event"
	"marshalling/value"
)

func at(now int64) event.Item { return event.Item{E: event.Event{Time: now}} }

func mark(now int64) event.Item {
	return event.Item{Mark: true, E: event.Event{Time: now}}
}

func made(t *testing.T, room int) *Ring {
	t.Helper()
	r, e := New(room)
	if r == nil || e != api.OK {
		t.Fatal(r, e)
	}
	return r
}

// TestNew (P5.1): rooms that may be, and a ring of nothing.
func TestNew(t *testing.T) {
	for _, room := range []int{0, -1, api.MaxRing + 1, math.MinInt, math.MaxInt} {
		if r, e := New(room); r != nil || e != api.ErrArg {
			t.Error(room, r, e)
		}
	}
	for _, room := range []int{1, 2, api.MaxRing} {
		r := made(t, room)
		if r.Cap() != room || r.Total() != 0 || r.Len() != 0 || r.Free() != room || r.Edge() != 0 || r.Closed() {
			t.Error(room)
		}
	}
}

// TestPut (P5.2): each refusal, which comes first, and that it turns nothing.
func TestPut(t *testing.T) {
	r := made(t, 2)
	n := r.Add()
	put := func(x event.Item, want api.Errno, total int, edge int64) {
		t.Helper()
		if e := r.Put(x); e != want || r.Total() != total || r.Edge() != edge || r.Wait(n) != min(total, 2) {
			t.Error(x, e, r.Total(), r.Edge(), r.Wait(n))
		}
	}
	bad := event.Item{E: event.Event{Time: -1}}
	badMark := event.Item{Mark: true, E: event.Event{Time: 9, V: []value.Value{{Kind: value.Int}}}}
	put(bad, api.ErrForm, 0, 0)
	put(badMark, api.ErrForm, 0, 0)
	put(mark(0), api.ErrLate, 0, 0)
	put(at(0), api.OK, 1, 1)
	put(at(0), api.ErrLate, 1, 1)
	put(mark(1), api.ErrLate, 1, 1)
	put(mark(5), api.OK, 2, 5)
	put(at(4), api.ErrLate, 2, 5)
	put(mark(5), api.ErrLate, 2, 5)
	put(at(5), api.ErrFull, 2, 5)
	put(mark(6), api.ErrFull, 2, 5)
	put(bad, api.ErrForm, 2, 5)
	r.Close()
	r.Close()
	put(bad, api.ErrForm, 2, 5)
	put(badMark, api.ErrForm, 2, 5)
	put(at(5), api.ErrClosed, 2, 5)
	put(at(4), api.ErrClosed, 2, 5)
	if !r.Closed() || r.Free() != 0 || r.Len() != 2 {
		t.Error("closed")
	}
}

// TestLast (P5.2): the last time of all, and the edge behind it.
func TestLast(t *testing.T) {
	r := made(t, 2)
	if r.Put(mark(api.MaxTime)) != api.OK || r.Edge() != api.MaxTime {
		t.Error(r.Edge())
	}
	if r.Put(at(api.MaxTime)) != api.OK || r.Edge() != api.MaxTime+1 {
		t.Error(r.Edge())
	}
	if r.Put(at(api.MaxTime)) != api.ErrLate || r.Put(at(api.MaxTime+1)) != api.ErrForm {
		t.Error("behind the last")
	}
}

// TestNoReaders (P5.1): without readers nothing is kept.
func TestNoReaders(t *testing.T) {
	r := made(t, 1)
	for i := range 5 {
		if r.Put(at(int64(i))) != api.OK || r.Len() != 0 || r.Free() != 1 || r.Total() != i+1 || len(r.items) != 0 {
			t.Error(i)
		}
	}
	n := r.Add()
	if r.Wait(n) != 0 || r.Low(n) != 5 {
		t.Error(r.Wait(n), r.Low(n))
	}
}

// TestAdd (P5.3): numbers, of which none is given twice, and how many there may be.
func TestAdd(t *testing.T) {
	r := made(t, 4)
	for i := range api.MaxReaders {
		if n := r.Add(); n != i+1 {
			t.Error(n, i+1)
		}
	}
	if r.Add() != 0 || r.Add() != 0 {
		t.Error("one more")
	}
	if !r.Drop(16) || r.Drop(16) || r.Drop(0) || r.Drop(-1) || r.Drop(17) || !r.Drop(3) {
		t.Error("drop")
	}
	if a, b, c := r.Add(), r.Add(), r.Add(); a != 17 || b != 18 || c != 0 {
		t.Error(a, b, c)
	}
}

// TestNoReader (P5.3, P2): of a number that no reader has there is nothing.
func TestNoReader(t *testing.T) {
	r := made(t, 4)
	n := r.Add()
	r.Put(at(3))
	r.Drop(n)
	r.Close()
	for _, n := range []int{n, 0, -1, 2, math.MaxInt, math.MinInt} {
		x, ok := r.Peek(n)
		y, also := r.Next(n)
		if r.Wait(n) != 0 || ok || also || !event.SameItem(x, event.Item{}) || !event.SameItem(y, event.Item{}) || r.Low(n) != 0 || r.Ended(n) || r.Drop(n) {
			t.Error(n)
		}
	}
	if r.Len() != 0 || r.Free() != 4 {
		t.Error(r.Len())
	}
}

// TestEnded (P5.3): of a ring that nothing was put into.
func TestEnded(t *testing.T) {
	r := made(t, 1)
	n := r.Add()
	if r.Ended(n) || r.Ended(n+1) || r.Ended(0) {
		t.Error("open")
	}
	r.Close()
	if !r.Ended(n) || r.Ended(n+1) || r.Ended(0) {
		t.Error("closed")
	}
}

// TestRead (P5.3): Peek reads nothing, Next one; Low is the edge behind what was read; Ended.
func TestRead(t *testing.T) {
	r := made(t, 3)
	r.Put(at(2))
	n := r.Add()
	if r.Low(n) != 3 || r.Wait(n) != 0 {
		t.Error("added", r.Low(n), r.Wait(n))
	}
	r.Put(at(5))
	r.Put(mark(9))
	later := r.Add()
	r.Close()
	for i, want := range []event.Item{at(5), mark(9)} {
		for range 2 {
			if x, ok := r.Peek(n); !ok || !event.SameItem(x, want) || r.Wait(n) != 2-i {
				t.Error(x, ok)
			}
		}
		if r.Ended(n) {
			t.Error("ended too early")
		}
		if x, ok := r.Next(n); !ok || !event.SameItem(x, want) {
			t.Error(x, ok)
		}
		if low := []int64{6, 9}[i]; r.Low(n) != low {
			t.Error(r.Low(n), low)
		}
	}
	if x, ok := r.Next(n); ok || !event.SameItem(x, event.Item{}) || !r.Ended(n) || !r.Ended(later) || r.Low(n) != 9 || r.Low(later) != 9 {
		t.Error("end")
	}
}

// TestShares (P3): what was handed in, and what is told, may be turned by the caller.
func TestShares(t *testing.T) {
	r := made(t, 3)
	n, m := r.Add(), r.Add()
	v := []value.Value{{Kind: value.Int, N: 1}}
	want := event.Item{E: event.Event{Time: 1, V: []value.Value{{Kind: value.Int, N: 1}}}}
	r.Put(event.Item{E: event.Event{Time: 1, V: v}})
	v[0].N = 7
	for range 2 {
		x, _ := r.Peek(n)
		if !event.SameItem(x, want) {
			t.Error(x)
		}
		x.E.V[0].N = 8
	}
	x, _ := r.Next(n)
	x.E.V[0].N = 9
	if y, _ := r.Next(m); !event.SameItem(y, want) {
		t.Error(y)
	}
}

// model is a ring as the document says it, with all items kept for good.
type model struct {
	all  []event.Item
	read map[int]int
}

func (m *model) len() int {
	most := 0
	for _, n := range m.read {
		most = max(most, len(m.all)-n)
	}
	return most
}

// TestModel (P5.1 to P5.4): whatever is done, the ring tells what the model does.
func TestModel(t *testing.T) {
	rnd := rand.New(rand.NewSource(1))
	for range 300 {
		room := 1 + rnd.Intn(4)
		r, m, last, now := made(t, room), model{read: map[int]int{}}, 0, int64(0)
		for range 200 {
			switch n := 1 + rnd.Intn(last+1); rnd.Intn(8) {
			case 0:
				if got := r.Add(); len(m.read) < api.MaxReaders {
					last++
					m.read[last] = len(m.all)
					if got != last {
						t.Fatal(got, last)
					}
				} else if got != 0 {
					t.Fatal(got)
				}
			case 1:
				if rnd.Intn(3) == 0 {
					_, ok := m.read[n]
					if r.Drop(n) != ok {
						t.Fatal("drop", n)
					}
					delete(m.read, n)
				}
			case 2, 3, 4:
				x := at(now + int64(rnd.Intn(3)))
				if rnd.Intn(4) == 0 {
					x = mark(now + 1 + int64(rnd.Intn(3)))
				}
				want := api.OK
				if m.len() == room {
					want = api.ErrFull
				}
				if e := r.Put(x); e != want {
					t.Fatal(e, want)
				}
				if want == api.OK {
					m.all = append(m.all, x)
					now = r.Edge()
				}
			default:
				at, ok := m.read[n]
				x, got := r.Next(n)
				if got != (ok && at < len(m.all)) || got && !event.SameItem(x, m.all[at]) {
					t.Fatal(x, got)
				}
				if got {
					m.read[n]++
				}
			}
			for n, read := range m.read {
				if r.Wait(n) != len(m.all)-read {
					t.Fatal(n, r.Wait(n), len(m.all)-read)
				}
			}
			if r.Len() != m.len() || r.Free() != room-m.len() || r.Total() != len(m.all) || len(r.items) != m.len() || r.Len() > r.Cap() {
				t.Fatal(r.Len(), m.len(), r.Total())
			}
		}
	}
}
