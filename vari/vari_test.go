package vari

import (
	"math"
	"math/big"
	"math/rand"
	"strings"
	"testing"
)

// numbers are those at which the form of a number changes, and some between.
func numbers() []uint64 {
	l := []uint64{0, 1, 2, 300, math.MaxUint64, math.MaxUint64 - 1, math.MaxInt64}
	for bit := range 64 {
		p := uint64(1) << bit
		l = append(l, p-1, p, p+1)
	}
	r := rand.New(rand.NewSource(1))
	for range 2000 {
		l = append(l, r.Uint64()>>r.Intn(64))
	}
	return l
}

// TestZig (P1.1): Zig is what the document's words say, as exact numbers, and Zag is its other half.
func TestZig(t *testing.T) {
	for _, u := range numbers() {
		n := int64(u)
		want := new(big.Int).Mul(big.NewInt(2), big.NewInt(n))
		if n < 0 {
			want.Neg(want).Sub(want, big.NewInt(1))
		}
		if got := Zig(n); new(big.Int).SetUint64(got).Cmp(want) != 0 {
			t.Error("Zig", n, got, want)
		}
		if Zag(Zig(n)) != n || Zig(Zag(u)) != u {
			t.Error("Zag", n, u)
		}
	}
}

// form tells the digits as the document's words say them.
func form(u uint64) string {
	b := []byte{}
	for u > 127 {
		b = append(b, byte(u%128)+128)
		u /= 128
	}
	return string(append(b, byte(u)))
}

// TestPut (P1.2, P1.3): each number is put in its one form, and got again wherever it stands.
func TestPut(t *testing.T) {
	for _, u := range numbers() {
		s := Put(u)
		if s != form(u) {
			t.Errorf("Put(%d) = %x", u, s)
		}
		for _, ahead := range []string{"", "\x80", "ab"} {
			v, next, ok := Get(ahead+s+"\x00", len(ahead))
			if v != u || next != len(ahead)+len(s) || !ok {
				t.Error("Get", u, v, next, ok)
			}
		}
		n := Zag(u)
		if PutInt(n) != s {
			t.Error("PutInt", n)
		}
		if m, next, ok := GetInt("z"+s, 1); m != n || next != 1+len(s) || !ok {
			t.Error("GetInt", n, m, next, ok)
		}
	}
}

// TestNone (P1.2, P2): where no number stands nothing is told.
func TestNone(t *testing.T) {
	for _, c := range []struct {
		s  string
		at int
	}{
		{"", 0}, {"", 1}, {"", -1}, {"\x01", -1}, {"\x01", 1}, {"\x01", 2},
		{"\x01", math.MaxInt}, {"\x01", math.MinInt},
		{"\x80", 0}, {"\xff\xff", 0}, {"\x01\x80", 1},
		{"\x80\x00", 0}, {"\xff\x80\x00", 0}, {strings.Repeat("\x80", 9) + "\x00", 0},
		{strings.Repeat("\xff", 9) + "\x02", 0}, {strings.Repeat("\xff", 9) + "\x81", 0},
		{strings.Repeat("\x80", 9) + "\x81\x00", 0}, {strings.Repeat("\x80", 10) + "\x01", 0},
		{strings.Repeat("\xff", 40), 0},
	} {
		if u, next, ok := Get(c.s, c.at); u != 0 || next != 0 || ok {
			t.Errorf("Get(%x, %d) = %d, %d, %v", c.s, c.at, u, next, ok)
		}
		if n, next, ok := GetInt(c.s, c.at); n != 0 || next != 0 || ok {
			t.Errorf("GetInt(%x, %d) = %d, %d, %v", c.s, c.at, n, next, ok)
		}
	}
}

// TestOneForm (P1.3): whatever bytes are got are those that would be put; small numbers have few.
func TestOneForm(t *testing.T) {
	r := rand.New(rand.NewSource(2))
	for range 20000 {
		b := make([]byte, r.Intn(13))
		for i := range b {
			b[i] = []byte{0, 1, 2, 127, 128, 129, 255}[r.Intn(7)]
		}
		s := string(b)
		if u, next, ok := Get(s, 0); ok && Put(u) != s[:next] {
			t.Errorf("two forms of %d: %x", u, s)
		}
	}
	for n := int64(-64); n < 64; n++ {
		if len(PutInt(n)) != 1 {
			t.Error("more than a byte", n)
		}
	}
}
