package lex

import (
	"math/rand"
	"slices"
	"strings"
	"testing"

	"marshalling/api"
)

// TestKinds: the numbers of the Kinds.
func TestKinds(t *testing.T) {
	if Word != 1 || Number != 2 || Quote != 3 || Sign != 4 || Key != 5 {
		t.Error(Word, Number, Quote, Sign, Key)
	}
}

// TestSigns (P6.1, P3): all of them, in order, as new memory.
func TestSigns(t *testing.T) {
	want := strings.Fields("; ! | ( ) [ ] , : . = # + - * / % < > == != <= >= && ||")
	l := Signs()
	if !slices.Equal(l, want) {
		t.Error(l)
	}
	l[0] = "?"
	if !slices.Equal(Signs(), want) {
		t.Error("turned", Signs())
	}
	for _, s := range want {
		if l, at, e := All(s); at != len(s) || e != api.OK || !slices.Equal(l, []Token{{Kind: Sign, Text: s}}) {
			t.Error(s, l, at, e)
		}
	}
}

// TestWords (P6.2): words of all Kinds, and where they begin.
func TestWords(t *testing.T) {
	long := strings.Repeat("w", 20)
	quoted := strings.Repeat("q", 64)
	for s, want := range map[string][]Token{
		"":                    nil,
		" \t\r\n ":            nil,
		"a<='b'":              {{Word, "a", 0, 0}, {Sign, "<=", 0, 1}, {Quote, "b", 0, 3}},
		"a1 _B 1a":            {{Word, "a1", 0, 0}, {Word, "_B", 0, 3}, {Number, "1", 1, 6}, {Word, "a", 0, 7}},
		"WITHIN within":       {{Key, "WITHIN", 0, 0}, {Word, "within", 0, 7}},
		"STRICT BY EMIT":      {{Key, "STRICT", 0, 0}, {Key, "BY", 0, 7}, {Key, "EMIT", 0, 10}},
		"true\tfalse\nBYE":    {{Key, "true", 0, 0}, {Key, "false", 0, 5}, {Word, "BYE", 0, 11}},
		long:                  {{Word, long, 0, 0}},
		"0 7 10":              {{Number, "0", 0, 0}, {Number, "7", 7, 2}, {Number, "10", 10, 4}},
		"9223372036854775807": {{Number, "9223372036854775807", 1<<63 - 1, 0}},
		"'' 'a b'":            {{Quote, "", 0, 0}, {Quote, "a b", 0, 3}},
		"'BY''1'":             {{Quote, "BY", 0, 0}, {Quote, "1", 0, 4}},
		"'\n\xff\x00'":        {{Quote, "\n\xff\x00", 0, 0}},
		"'" + quoted + "'":    {{Quote, quoted, 0, 0}},
		"===":                 {{Sign, "==", 0, 0}, {Sign, "=", 0, 2}},
		"!!=|||&&":            {{Sign, "!", 0, 0}, {Sign, "!=", 0, 1}, {Sign, "||", 0, 3}, {Sign, "|", 0, 5}, {Sign, "&&", 0, 6}},
		"<>=< =":              {{Sign, "<", 0, 0}, {Sign, ">=", 0, 1}, {Sign, "<", 0, 3}, {Sign, "=", 0, 5}},
		"a.x-(#b-1)": {{Word, "a", 0, 0}, {Sign, ".", 0, 1}, {Word, "x", 0, 2}, {Sign, "-", 0, 3}, {Sign, "(", 0, 4},
			{Sign, "#", 0, 5}, {Word, "b", 0, 6}, {Sign, "-", 0, 7}, {Number, "1", 1, 8}, {Sign, ")", 0, 9}},
	} {
		if l, at, e := All(s); !slices.Equal(l, want) || at != len(s) || e != api.OK {
			t.Errorf("%q: %v %v %v", s, l, at, e)
		}
	}
}

// TestBytes (P6.2): of each byte what begins with it.
func TestBytes(t *testing.T) {
	for b := range 256 {
		s := string([]byte{byte(b)})
		kind := 0
		switch {
		case strings.Contains("abcdefghijklmnopqrstuvwxyzABCDEFGHIJKLMNOPQRSTUVWXYZ_", s):
			kind = Word
		case strings.Contains("0123456789", s):
			kind = Number
		case slices.Contains(Signs(), s):
			kind = Sign
		case strings.Contains(" \t\r\n", s):
			kind = -1
		}
		l, at, e := All(s)
		switch {
		case kind == 0 && (e != api.ErrLex || at != 0 || len(l) != 0):
			t.Errorf("%q %v %v %v", s, l, at, e)
		case kind == -1 && (e != api.OK || at != 1 || len(l) != 0):
			t.Errorf("%q %v %v %v", s, l, at, e)
		case kind > 0 && (e != api.OK || at != 1 || len(l) != 1 || l[0].Kind != kind || l[0].Text != s):
			t.Errorf("%q %v %v %v", s, l, at, e)
		}
		// Behind a letter letters and digits go on.
		if l, _, _ := All("x" + s); (kind == Word || kind == Number) != (len(l) == 1 && l[0].Text == "x"+s) {
			t.Errorf("%q %v", s, l)
		}
	}
}

// TestWrong (P6.2, P2): what is no word, and where it begins.
func TestWrong(t *testing.T) {
	for s, want := range map[string]int{
		"a $":                                 2,
		"a & b":                               2,
		"&":                                   0,
		"a\x00":                               1,
		"a \v":                                2,
		"é":                                   0,
		"x \xff y $":                          2,
		"01":                                  0,
		"a 00":                                2,
		"0a 0123":                             3,
		"9223372036854775808":                 0,
		"a 99999999999999999999999999999":     2,
		"a 'b":                                2,
		"'":                                   0,
		"'a' '":                               4,
		"a '" + strings.Repeat("q", 65) + "'": 2,
		"a " + strings.Repeat("w", 21):        2,
		strings.Repeat("w1", 11) + " $":       0,
		"STRICT" + strings.Repeat("T", 15):    0,
		"\"a\"":                               0,
		"a ? b":                               2,
	} {
		if l, at, e := All(s); len(l) != 0 || at != want || e != api.ErrLex {
			t.Errorf("%q: %v %v %v", s, l, at, e)
		}
	}
}

// TestLong (P6.2): the length of a text goes ahead of what is wrong in it.
func TestLong(t *testing.T) {
	for _, s := range []string{strings.Repeat(" ", 2049), strings.Repeat("$", 2049), strings.Repeat("a ", 5000)} {
		if l, at, e := All(s); len(l) != 0 || at != 2048 || e != api.ErrLimit {
			t.Error(len(l), at, e)
		}
	}
	if l, at, e := All(strings.Repeat("a ", 1024)); len(l) != 1024 || at != 2048 || e != api.OK {
		t.Error(len(l), at, e)
	}
}

// TestPut (P6.3): texts, with a space between.
func TestPut(t *testing.T) {
	for want, l := range map[string][]Token{
		"":           nil,
		"''":         {{Kind: Quote}},
		"a <= 'b c'": {{Kind: Word, Text: "a"}, {Kind: Sign, Text: "<="}, {Kind: Quote, Text: "b c"}},
		"BY 12  x":   {{Kind: Key, Text: "BY"}, {Kind: Number, Text: "12", N: 7, At: 99}, {}, {Kind: 9, Text: "x"}},
	} {
		if got := Put(l); got != want {
			t.Error(got, want)
		}
	}
}

// TestRound (P6.4): what is put of words that were got is got as the same.
func TestRound(t *testing.T) {
	r := rand.New(rand.NewSource(1))
	pieces := append(Signs(), "a", "b1", "BY", "true", "0", "12", "'q'", "' '", " ", "\n", "$", "&", "'")
	found := 0
	for range 20000 {
		s := ""
		for range r.Intn(12) {
			s += pieces[r.Intn(len(pieces))]
		}
		l, at, e := All(s)
		if e != api.OK {
			if len(l) != 0 || e != api.ErrLex || at < 0 || at >= len(s) {
				t.Errorf("%q %v %v %v", s, l, at, e)
			}
			continue
		}
		found++
		again, _, e := All(Put(l))
		same := func(a, b Token) bool {
			a.At, b.At = 0, 0
			return a == b
		}
		if e != api.OK || !slices.EqualFunc(l, again, same) {
			t.Errorf("%q %v %v", s, l, again)
		}
	}
	if found < 1000 {
		t.Error("too few", found)
	}
}
