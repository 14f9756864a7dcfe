package value

import (
	"math"
	"math/rand"
	"strings"
	"testing"

	"marshalling/vari"
)

func number(n int64) Value { return Value{Kind: Int, N: n} }

func truth(n int64) Value { return Value{Kind: Bool, N: n} }

func text(s string) Value { return Value{Kind: Text, S: s} }

// rights are right values, of one Kind rising.
func rights() []Value {
	return []Value{
		number(math.MinInt64), number(-65), number(-1), number(0), number(1), number(64), number(math.MaxInt64),
		truth(0), truth(1),
		text(""), text("\x00"), text("'"), text("A"), text("a"), text("a\x00"), text("ab"), text("b"), text("b" + strings.Repeat("z", 63)), text("\xff"),
	}
}

// wrongs are values that are not right.
func wrongs() []Value {
	return []Value{
		{}, {Kind: 4}, {Kind: -1}, {Kind: 257}, {N: 1}, {S: "a"},
		{Kind: Int, S: "a"}, {Kind: Int, N: 1, S: "a"},
		truth(2), truth(-1), {Kind: Bool, S: "a"}, {Kind: Bool, N: 1, S: "a"},
		{Kind: Text, N: 1}, {Kind: Text, N: 1, S: "a"}, text(strings.Repeat("a", 65)),
	}
}

// TestKinds: the numbers of the Kinds.
func TestKinds(t *testing.T) {
	if Int != 1 || Bool != 2 || Text != 3 {
		t.Error(Int, Bool, Text)
	}
}

// TestRight (P2.1): what is right, and what is not; a right one is a key of a map.
func TestRight(t *testing.T) {
	keys := map[Value]bool{}
	for _, v := range rights() {
		if !Right(v) {
			t.Error(v)
		}
		keys[v] = true
	}
	if len(keys) != len(rights()) {
		t.Error(len(keys))
	}
	for _, v := range wrongs() {
		if Right(v) {
			t.Error(v)
		}
	}
	if !Right(text(strings.Repeat("\xff", 64))) {
		t.Error("64 bytes")
	}
}

// TestOrder (P2.2): by numbers, by bytes; none between Kinds, or of what is not right.
func TestOrder(t *testing.T) {
	l := rights()
	for i, a := range l {
		for k, b := range l {
			n, ok := Order(a, b)
			if a.Kind != b.Kind {
				if n != 0 || ok {
					t.Error(a, b, n, ok)
				}
			} else if !ok || (n < 0) != (i < k) || (n > 0) != (i > k) {
				t.Error(a, b, n, ok)
			}
		}
		for _, b := range wrongs() {
			n, ok := Order(a, b)
			m, also := Order(b, a)
			if n != 0 || ok || m != 0 || also {
				t.Error(a, b)
			}
		}
	}
	if n, ok := Order(Value{}, Value{}); n != 0 || ok {
		t.Error(n, ok)
	}
}

// TestPut (P2.3, P2.5): the bytes, and what is got of them.
func TestPut(t *testing.T) {
	for s, v := range map[string]Value{
		"\x01\x00": number(0), "\x01\x01": number(-1), "\x01\xd8\x04": number(300),
		"\x02\x00": truth(0), "\x02\x01": truth(1),
		"\x03\x00": text(""), "\x03\x02ab": text("ab"),
		"\x03\x40" + strings.Repeat("x", 64): text(strings.Repeat("x", 64)),
	} {
		if got := Put(v); got != s {
			t.Errorf("%v %x", v, got)
		}
	}
	met := map[string]Value{}
	for _, v := range rights() {
		s := Put(v)
		if w, ok := met[s]; ok {
			t.Error("put alike", v, w)
		}
		met[s] = v
		for _, ahead := range []string{"", "\x01", "??"} {
			got, next, ok := Get(ahead+s+"\x01", len(ahead))
			if got != v || next != len(ahead)+len(s) || !ok {
				t.Error(v, got, next, ok)
			}
		}
		if got, next, ok := Get(s, 0); got != v || next != len(s) || !ok {
			t.Error("at the end", v, got, next, ok)
		}
	}
	for _, v := range wrongs() {
		if Put(v) != "" {
			t.Error(v)
		}
	}
}

// TestNone (P2.3, P2): where no value stands nothing is told.
func TestNone(t *testing.T) {
	for _, c := range []struct {
		s  string
		at int
	}{
		{"", 0}, {"\x01\x00", -1}, {"\x01\x00", 2}, {"\x01\x00", 1}, {"\x01\x00", math.MaxInt}, {"\x01\x00", math.MinInt},
		{"\x00\x00", 0}, {"\x04\x00", 0}, {"\xff\x00", 0},
		{"\x01", 0}, {"\x01\x80", 0}, {"\x01\x80\x00", 0},
		{"\x02", 0}, {"\x02\x02", 0}, {"\x02\x81\x00", 0},
		{"\x03", 0}, {"\x03\x01", 0}, {"\x03\x02a", 0}, {"\x03\x80\x00", 0},
		{"\x03\x41" + strings.Repeat("a", 65), 0},
		{"\x03" + vari.Put(math.MaxUint64) + "a", 0}, {"\x03" + vari.Put(1<<63) + "a", 0},
	} {
		if v, next, ok := Get(c.s, c.at); v != (Value{}) || next != 0 || ok {
			t.Errorf("%x %d: %v %d %v", c.s, c.at, v, next, ok)
		}
	}
}

// TestAnyBytes (P2.3): whatever is got is right, and stands there as it would be put.
func TestAnyBytes(t *testing.T) {
	r := rand.New(rand.NewSource(1))
	for range 50000 {
		b := make([]byte, r.Intn(7))
		for i := range b {
			b[i] = []byte{0, 1, 2, 3, 4, 64, 127, 128, 255}[r.Intn(9)]
		}
		s := string(b)
		at := r.Intn(3)
		if v, next, ok := Get(s, at); ok && (!Right(v) || Put(v) != s[at:next]) {
			t.Errorf("%x %d: %v", s, at, v)
		}
	}
}

// TestShow (P2.4): values as texts.
func TestShow(t *testing.T) {
	for want, v := range map[string]Value{
		"0": number(0), "-1": number(-1), "9223372036854775807": number(math.MaxInt64), "-9223372036854775808": number(math.MinInt64),
		"false": truth(0), "true": truth(1), "''": text(""), "'a b'": text("a b"), "'''": text("'"),
	} {
		if got := Show(v); got != want {
			t.Error(v, got)
		}
	}
	for _, v := range wrongs() {
		if Show(v) != "?" {
			t.Error(v)
		}
	}
}
