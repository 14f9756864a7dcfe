package hold

import (
	"cmp"
	"math"
	"math/rand"
	"slices"
	"strconv"
	"testing"

	"marshalling/denote"
)

func wait(until int64, x string, parts ...[]int) Wait[string] {
	return Wait[string]{until, parts, x}
}

// names tells the X of all.
func names(l []Wait[string]) string {
	s := ""
	for _, w := range l {
		s += w.X
	}
	return s
}

// TestOrder (P14.1): by Until, then by Parts, then as they were added.
func TestOrder(t *testing.T) {
	h := New[string]()
	if h == nil || h.Len() != 0 {
		t.Fatal("new")
	}
	for _, w := range []Wait[string]{
		wait(5, "f", []int{1}), wait(5, "d", []int{0}, []int{2}), wait(4, "b", []int{9}), wait(5, "e", []int{0}, []int{2}), wait(math.MaxInt64, "i"), wait(math.MinInt64, "a", []int{1}), wait(5, "c"), wait(6, "h", nil, []int{0}), wait(6, "g", nil),
	} {
		h.Add(w)
	}
	if h.Len() != 9 {
		t.Error(h.Len())
	}
	for i, want := range "abcdefghi" {
		if w, ok := h.At(i); !ok || w.X != string(want) {
			t.Error(i, w, ok)
		}
	}
	if got := names(h.All()); got != "abcdefghi" || h.Len() != 0 {
		t.Error(got, h.Len())
	}
}

// TestNone (P14.1, P2, P6): places where there is none.
func TestNone(t *testing.T) {
	h := New[int]()
	h.Add(Wait[int]{5, [][]int{{1}}, 7})
	for _, i := range []int{-1, 1, math.MinInt, math.MaxInt} {
		if w, ok := h.At(i); ok || w.Until != 0 || w.X != 0 || w.Parts != nil || h.Cut(i) {
			t.Error(i, w, ok)
		}
	}
	if h.Len() != 1 || !h.Cut(0) || h.Len() != 0 || h.Cut(0) || len(h.All()) != 0 || len(h.Due(math.MaxInt64)) != 0 {
		t.Error("cut")
	}
}

// TestDue (P14.2): below now, not at it.
func TestDue(t *testing.T) {
	h := New[string]()
	h.Add(wait(5, "b"))
	h.Add(wait(4, "a"))
	if l := h.Due(4); len(l) != 0 || h.Len() != 2 {
		t.Error(l)
	}
	if l := h.Due(5); names(l) != "a" || l[0].Until != 4 || h.Len() != 1 {
		t.Error(l)
	}
	if l := h.Due(5); len(l) != 0 {
		t.Error(l)
	}
	h.Add(wait(math.MaxInt64, "c"))
	if l := h.Due(math.MaxInt64); names(l) != "b" || h.Len() != 1 {
		t.Error(l)
	}
	if l := h.Due(math.MinInt64); len(l) != 0 {
		t.Error(l)
	}
}

// TestShares (P14.1, P3): Parts are copies, in and out; X is handed on as it is.
func TestShares(t *testing.T) {
	h := New[*int]()
	parts := [][]int{{1, 2}, {3}}
	x := new(int)
	h.Add(Wait[*int]{5, parts, x})
	parts[0][0], parts[1] = 9, nil
	for range 2 {
		w, _ := h.At(0)
		if denote.Order(w.Parts, [][]int{{1, 2}, {3}}) != 0 || w.X != x {
			t.Error(w)
		}
		w.Parts[0][1], w.Parts[1] = 8, []int{7}
	}
	if l := h.Due(6); len(l) != 1 || denote.Order(l[0].Parts, [][]int{{1, 2}, {3}}) != 0 || l[0].X != x {
		t.Error(l)
	}
}

// TestModel (P14.1 to P14.3): whatever is done, it holds what a plain list does; due in steps is due at once.
func TestModel(t *testing.T) {
	r := rand.New(rand.NewSource(1))
	for range 500 {
		h, twin := New[string](), New[string]()
		plain := []Wait[string]{}
		for i := range r.Intn(30) {
			w := wait(int64(r.Intn(5)), strconv.Itoa(i)+",", []int{r.Intn(2)}, []int{r.Intn(2)}[:r.Intn(2)])
			h.Add(w)
			twin.Add(w)
			plain = append(plain, w)
			slices.SortStableFunc(plain, func(a, b Wait[string]) int {
				return cmp.Or(cmp.Compare(a.Until, b.Until), denote.Order(a.Parts, b.Parts))
			})
			if k := r.Intn(40); k < len(plain) {
				if !h.Cut(k) || !twin.Cut(k) {
					t.Fatal(k)
				}
				plain = slices.Delete(plain, k, k+1)
			}
			if h.Len() != len(plain) {
				t.Fatal(h.Len(), len(plain))
			}
		}
		a, b := int64(r.Intn(6)), int64(r.Intn(6))
		a, b = min(a, b), max(a, b)
		steps := names(h.Due(a)) + names(h.Due(b))
		if once := names(twin.Due(b)); steps != once || steps+names(h.All()) != names(plain) || once+names(twin.All()) != names(plain) {
			t.Fatal(steps, once, names(plain))
		}
	}
}
