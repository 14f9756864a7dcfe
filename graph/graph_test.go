package graph

import (
	"math/rand"
	"slices"
	"strconv"
	"strings"
	"testing"

	"marshalling/api"
)

// nodes tells those of a text: a<b,c d<a.
func nodes(text string) []Node {
	l := []Node{}
	for _, s := range strings.Fields(text) {
		name, from, ok := strings.Cut(s, "<")
		n := Node{Name: name}
		if ok {
			n.From = strings.Split(from, ",")
		}
		l = append(l, n)
	}
	return l
}

// TestAbove (P12.1): what comes of a name.
func TestAbove(t *testing.T) {
	for _, c := range []struct {
		l, name string
		want    []int
	}{
		{"", "a", nil}, {"a", "a", nil}, {"a<s b<a", "s", []int{0, 1}}, {"a<s b<a", "a", []int{1}}, {"a<s b<a", "b", nil}, {"a<s b<a", "x", nil}, {"a<s b<a", "", nil},
		{"c<b b<a a<s", "s", []int{0, 1, 2}}, {"a<b b<a", "a", []int{0, 1}}, {"a<a", "a", []int{0}}, {"a<s,s,s", "s", []int{0}}, {"a<s a<t b<a", "s", []int{0, 2}}, {"a<s a b<a", "a", []int{2}},
		{"a<t b<s,a c<x d<b,c", "s", []int{1, 3}},
	} {
		if got := Above(nodes(c.l), c.name); !slices.Equal(got, c.want) {
			t.Error(c.l, c.name, got)
		}
	}
	if got := Above([]Node{{"", []string{""}}, {"b", []string{""}}}, ""); !slices.Equal(got, []int{0, 1}) {
		t.Error(got)
	}
}

// TestLoops (P12.1): nodes that come of their own Name, those with the same Name, too.
func TestLoops(t *testing.T) {
	for l, want := range map[string][]int{
		"": nil, "a": nil, "a<s b<a": nil, "a<a": {0}, "a<b b<a": {0, 1}, "s<a a<b b<a c<b": {1, 2}, "x<c c<b b<a a<c": {1, 2, 3},
		"a a<a": {1}, "a<b b<a a": {0, 1}, "a<a b<b c": {0, 1}, "a<b,c b<c c<d d": nil, "a<b b<c c<b": {1, 2}, "a a<b b<a": {1, 2},
	} {
		if got := Loops(nodes(l)); !slices.Equal(got, want) {
			t.Error(l, got)
		}
	}
}

// TestRanks (P12.2, P2): ranks, orders, and what keeps there from being any.
func TestRanks(t *testing.T) {
	for l, want := range map[string][2][]int{
		"": {}, "a": {{0}, {0}}, "a<s b<a": {{0, 1}, {0, 1}}, "b<a a<s": {{1, 0}, {1, 0}}, "d<c,a c<b b<a a<x e<x,y f<e": {{3, 2, 1, 0, 0, 1}, {3, 4, 2, 5, 1, 0}},
		"a<b,b,b b": {{1, 0}, {1, 0}}, "c<a b a": {{1, 0, 0}, {1, 2, 0}},
	} {
		ranks, e := Ranks(nodes(l))
		order, f := Order(nodes(l))
		if !slices.Equal(ranks, want[0]) || !slices.Equal(order, want[1]) || e != api.OK || f != api.OK {
			t.Error(l, ranks, order, e, f)
		}
	}
	for l, want := range map[string]api.Errno{"a a": api.ErrTwice, "a<a a": api.ErrTwice, "b<b a c a": api.ErrTwice, "a<a": api.ErrCycle, "a b<c c<b": api.ErrCycle, "x<y y<z z<x w<x": api.ErrCycle, "a<a,b": api.ErrCycle} {
		ranks, e := Ranks(nodes(l))
		order, f := Order(nodes(l))
		if len(ranks)+len(order) != 0 || e != want || f != want {
			t.Error(l, ranks, order, e, f)
		}
	}
}

// comes asks it as the document says it.
func comes(l []Node, i int, name string, met map[int]bool) bool {
	if met[i] {
		return false
	}
	met[i] = true
	for _, from := range l[i].From {
		if from == name {
			return true
		}
		for k := range l {
			if l[k].Name == from && comes(l, k, name, met) {
				return true
			}
		}
	}
	return false
}

// TestRandom (P12.1 to P12.3): whatever the nodes, all is as the document says.
func TestRandom(t *testing.T) {
	r := rand.New(rand.NewSource(1))
	ordered := 0
	for range 5000 {
		l := []Node{}
		twice := false
		for i := range r.Intn(7) {
			n := Node{Name: strconv.Itoa(i)}
			if r.Intn(20) == 0 {
				n.Name = strconv.Itoa(r.Intn(7))
			}
			for range r.Intn(3) {
				n.From = append(n.From, strconv.Itoa(r.Intn(9)))
			}
			twice = twice || slices.ContainsFunc(l, func(x Node) bool { return x.Name == n.Name })
			l = append(l, n)
		}
		loops := []int{}
		for i := range l {
			if comes(l, i, l[i].Name, map[int]bool{}) {
				loops = append(loops, i)
			}
			above := []int{}
			for k := range l {
				if comes(l, k, l[i].Name, map[int]bool{}) {
					above = append(above, k)
				}
			}
			if got := Above(l, l[i].Name); !slices.Equal(got, above) {
				t.Fatal(l, got, above)
			}
		}
		if got := Loops(l); !slices.Equal(got, loops) {
			t.Fatal(l, got, loops)
		}
		order, e := Order(l)
		switch {
		case twice && e != api.ErrTwice || !twice && (e == api.ErrCycle) != (len(loops) > 0):
			t.Fatal(l, e)
		case e == api.OK:
			ordered++
			behind(t, l, order)
			added(t, l, r)
		}
	}
	if ordered < 500 {
		t.Error("too few", ordered)
	}
}

// behind: each node stands behind all that it comes of, of one rank they rise, and ranks are as the document says.
func behind(t *testing.T, l []Node, order []int) {
	t.Helper()
	ranks, _ := Ranks(l)
	for i, n := range l {
		want := 0
		for k := range l {
			if slices.Contains(n.From, l[k].Name) {
				want = max(want, ranks[k]+1)
			}
			if comes(l, i, l[k].Name, map[int]bool{}) && slices.Index(order, k) >= slices.Index(order, i) {
				t.Fatal(l, order)
			}
			if ranks[k] == ranks[i] && k < i && slices.Index(order, k) > slices.Index(order, i) {
				t.Fatal(l, order)
			}
		}
		if ranks[i] != want {
			t.Fatal(l, ranks)
		}
	}
	if sorted := slices.Sorted(slices.Values(order)); len(sorted) != len(l) || len(l) > 0 && (sorted[0] != 0 || sorted[len(l)-1] != len(l)-1) {
		t.Fatal(order)
	}
}

// added: a node more makes loops just if it comes of one that comes of it.
func added(t *testing.T, l []Node, r *rand.Rand) {
	t.Helper()
	n := Node{Name: "8", From: []string{strconv.Itoa(r.Intn(9)), strconv.Itoa(r.Intn(9))}}
	if slices.ContainsFunc(l, func(x Node) bool { return x.Name == "8" }) {
		return
	}
	all := append(slices.Clone(l), n)
	if loops := Loops(all); (len(loops) > 0) != comes(all, len(l), "8", map[int]bool{}) {
		t.Fatal(all, loops)
	}
}

// TestLong (P1): a long chain, either way round.
func TestLong(t *testing.T) {
	up, down := []Node{}, []Node{}
	for i := range 3000 {
		up = append(up, Node{strconv.Itoa(i), []string{strconv.Itoa(i - 1)}})
		down = append(down, Node{strconv.Itoa(i), []string{strconv.Itoa(i + 1)}})
	}
	a, _ := Ranks(up)
	b, _ := Order(down)
	if a[2999] != 2999 || b[0] != 2999 || len(Loops(up)) != 0 || len(Above(up, "-1")) != 3000 {
		t.Error("chain")
	}
	up[0].From[0] = "2999"
	if _, e := Ranks(up); e != api.ErrCycle || len(Loops(up)) != 3000 {
		t.Error("circle", e)
	}
}
