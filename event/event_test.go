package event

import (
	"math"
	"math/rand"
	"strings"
	"testing"

	"marshalling/api"
	"marshalling/stream"
	"marshalling/value"
)

func number(n int64) value.Value { return value.Value{Kind: value.Int, N: n} }

func truth(n int64) value.Value { return value.Value{Kind: value.Bool, N: n} }

func text(s string) value.Value { return value.Value{Kind: value.Text, S: s} }

func at(now int64, v ...value.Value) Event { return Event{now, v} }

// plains are plain events, no two the same.
func plains() []Event {
	return []Event{
		at(0), at(1), at(127), at(128), at(1 << 60), at(api.MaxTime),
		at(0, number(0)), at(0, number(-1)), at(0, truth(0)), at(0, truth(1)), at(0, text("")), at(5, text("ab"), number(3)), at(5, number(3), text("ab")),
		at(7, number(1), number(2), number(3), number(4), number(5), text(strings.Repeat("z", 64))),
		at(7, number(1), number(2), number(3), number(4), number(5)),
	}
}

// wrongs are events that are not plain.
func wrongs() []Event {
	return []Event{
		at(-1), at(math.MinInt64), at(api.MaxTime + 1), at(math.MaxInt64),
		at(1, value.Value{}), at(1, number(1), truth(2)), at(1, text(strings.Repeat("z", 65))),
		at(1, number(1), number(1), number(1), number(1), number(1), number(1), number(1)),
		at(-1, number(1)),
	}
}

// TestPlain (P4.1): what is plain, and what is not.
func TestPlain(t *testing.T) {
	for _, e := range plains() {
		if !Plain(e) {
			t.Error(e)
		}
	}
	for _, e := range wrongs() {
		if Plain(e) || Right(Item{E: e}) || Right(Item{true, e}) || Put(e) != "" || PutItem(Item{E: e}) != "" || PutItem(Item{true, e}) != "" {
			t.Error(e)
		}
	}
}

// TestFits (P4.1): form first, then kinds.
func TestFits(t *testing.T) {
	s := stream.Stream{Name: "s", Fields: []stream.Field{{Name: "x", Kind: value.Int}, {Name: "y", Kind: value.Text}}}
	for i, c := range []struct {
		e    Event
		want api.Errno
	}{
		{at(3, number(1), text("a")), api.OK},
		{at(api.MaxTime, number(1), text("a")), api.OK},
		{at(3, number(1)), api.ErrForm}, {at(3), api.ErrForm}, {at(3, number(1), text("a"), number(1)), api.ErrForm},
		{at(-1, number(1), text("a")), api.ErrForm}, {at(api.MaxTime+1, number(1), text("a")), api.ErrForm},
		{at(3, text("a"), value.Value{}), api.ErrForm},
		{at(3, truth(1), text("a")), api.ErrType}, {at(3, number(1), number(2)), api.ErrType}, {at(3, text("a"), number(1)), api.ErrType},
	} {
		if got := Fits(s, c.e); got != c.want {
			t.Error(i, got, c.want)
		}
	}
	if Fits(stream.Stream{}, at(3)) != api.OK {
		t.Error("no fields")
	}
	odd := stream.Stream{Fields: []stream.Field{{Kind: 9}}}
	if Fits(odd, at(3, number(1))) != api.ErrType {
		t.Error("a kind that is none")
	}
}

// TestSame (P4.1, P4.3): times and values, one by one; marks.
func TestSame(t *testing.T) {
	l := append(plains(), wrongs()...)
	for i, a := range l {
		for k, b := range l {
			if Same(a, b) != (i == k) || SameItem(Item{E: a}, Item{E: b}) != (i == k) || SameItem(Item{true, a}, Item{true, b}) != (i == k) {
				t.Error(a, b)
			}
			if SameItem(Item{true, a}, Item{E: b}) {
				t.Error("mark, and event", a, b)
			}
		}
	}
	if !Same(Event{}, Event{V: []value.Value{}}) {
		t.Error("nil, or empty")
	}
}

// TestPut (P4.2, P4.4): events as bytes, and back.
func TestPut(t *testing.T) {
	for want, e := range map[string]Event{
		"\x00\x00":                           at(0),
		"\xac\x02\x01\x01\x02":               at(300, number(1)),
		"\x05\x03\x02\x01\x03\x02ab\x01\x01": at(5, truth(1), text("ab"), number(-1)),
	} {
		if got := Put(e); got != want {
			t.Errorf("%v %x", e, got)
		}
	}
	met := map[string]bool{}
	for _, e := range plains() {
		s := Put(e)
		if met[s] {
			t.Error("put alike", e)
		}
		met[s] = true
		if got, ok := Get(s); !ok || !Same(got, e) {
			t.Error(e, got, ok)
		}
	}
}

// TestItems (P4.3, P4.4): items as bytes, and back.
func TestItems(t *testing.T) {
	met := map[string]bool{}
	for _, e := range plains() {
		for _, x := range []Item{{E: e}, {true, Event{Time: e.Time}}, {true, e}} {
			s := PutItem(x)
			if x.Mark && len(x.E.V) > 0 {
				if Right(x) || s != "" {
					t.Error("a mark with values", x)
				}
				continue
			}
			if !Right(x) {
				t.Error(x)
			}
			met[s] = true
			if got, ok := GetItem(s); !ok || !SameItem(got, x) {
				t.Error(x, got, ok)
			}
		}
	}
	if len(met) != len(plains())+8 {
		t.Error(len(met))
	}
	for want, x := range map[string]Item{"\x01\x05": {true, at(5)}, "\x00\x05\x00": {false, at(5)}, "\x00\x05\x01\x02\x01": {false, at(5, truth(1))}} {
		if got := PutItem(x); got != want {
			t.Errorf("%v %x", x, got)
		}
	}
}

// TestNone (P4.2, P4.3, P2): bytes of no event, and of no item.
func TestNone(t *testing.T) {
	tooLate := "\x81\x80\x80\x80\x80\x80\x80\x80\x20"
	for _, s := range []string{
		"", "\x00", "\x80", "\x80\x00\x00", "\x00\x00\x00", "\x00\x01", "\x00\x01\x01", "\x00\x01\x01\x00\x00", "\x00\x02\x01\x00",
		"\x00\x01\x04\x00", "\x00\x01\x02\x02", "\x00\xff", "\x00\x07" + strings.Repeat("\x01\x00", 7), tooLate + "\x00",
		"\xff\xff\xff\xff\xff\xff\xff\xff\xff\x01\x00",
	} {
		if e, ok := Get(s); ok || !Same(e, Event{}) {
			t.Errorf("%x %v", s, e)
		}
		if x, ok := GetItem("\x00" + s); ok || !SameItem(x, Item{}) {
			t.Errorf("%x %v", s, x)
		}
	}
	if e, ok := Get("\x80\x80\x80\x80\x80\x80\x80\x80\x20\x00"); !ok || e.Time != api.MaxTime {
		t.Error("the last time")
	}
	for _, s := range []string{"", "\x01", "\x01\x80", "\x01\x80\x00", "\x01\x05\x00", "\x02\x05", "\x02\x05\x00", "\xff", "\x01" + tooLate} {
		if x, ok := GetItem(s); ok || !SameItem(x, Item{}) {
			t.Errorf("%x %v", s, x)
		}
	}
}

// TestAnyBytes (P4.2, P4.3): whatever is got is plain, and is put as it was.
func TestAnyBytes(t *testing.T) {
	r := rand.New(rand.NewSource(1))
	for range 100000 {
		b := make([]byte, r.Intn(9))
		for i := range b {
			b[i] = []byte{0, 1, 2, 3, 6, 7, 128}[r.Intn(7)]
		}
		s := string(b)
		if e, ok := Get(s); ok && (!Plain(e) || Put(e) != s) {
			t.Errorf("%x %v", s, e)
		}
		if x, ok := GetItem(s); ok && (!Right(x) || PutItem(x) != s) {
			t.Errorf("%x %v", s, x)
		}
	}
}
