package script_test

import (
	"math"
	"strconv"
	"strings"
	"testing"

	"marshalling/api"
	"marshalling/denote"
	"marshalling/engine"
	"marshalling/event"
	"marshalling/script"
	"marshalling/stream"
	"marshalling/value"
)

func config() engine.Config {
	return engine.Config{Streams: []stream.Stream{
		{Name: "A", Fields: []stream.Field{{Name: "x", Kind: value.Int}}},
		{Name: "B", Fields: []stream.Field{{Name: "y", Kind: value.Bool}, {Name: "z", Kind: value.Text}}},
		{Name: "C"},
	}, Ring: 4, Sink: 4, Runs: 3}
}

func made(t *testing.T) *script.Box {
	t.Helper()
	b, e := script.New(config())
	if b == nil || e != api.OK || b.Engine() == nil {
		t.Fatal(e)
	}
	return b
}

// TestNew (P22.1, P2): the error of the engine, or a box with one.
func TestNew(t *testing.T) {
	bad := config()
	bad.Ring = 0
	twice := config()
	twice.Streams[1].Name = "A"
	for _, c := range []struct {
		c    engine.Config
		want api.Errno
	}{{bad, api.ErrArg}, {twice, api.ErrTwice}, {engine.Config{}, api.ErrArg}} {
		if b, e := script.New(c.c); b != nil || e != c.want {
			t.Error(b, e)
		}
		if s, e := script.Play(c.c, "tick"); s != "" || e != c.want {
			t.Error(s, e)
		}
	}
	b := made(t)
	b.Do("register 5 q = A a WITHIN 1")
	if l := b.Engine().Names(); len(l) != 1 || l[0] != "q" {
		t.Error(l)
	}
}

// TestNumber (P22.1): what is shown as it stands there.
func TestNumber(t *testing.T) {
	for _, n := range []int64{0, 1, -1, 10, -10, math.MaxInt64, math.MinInt64} {
		if got, ok := script.Number(strconv.FormatInt(n, 10)); got != n || !ok {
			t.Error(n, got, ok)
		}
	}
	for _, s := range []string{"", "-", "+1", "-0", "00", "01", "-01", " 1", "1 ", "1a", "0x1", "1_0", "1e1", "9223372036854775808", "-9223372036854775809", "1.0", "true", "٣"} {
		if got, ok := script.Number(s); got != 0 || ok {
			t.Error(s, got, ok)
		}
	}
}

// TestValue (P22.1): values that can be words.
func TestValue(t *testing.T) {
	for s, want := range map[string]value.Value{
		"0": {Kind: value.Int}, "-7": {Kind: value.Int, N: -7}, "true": {Kind: value.Bool, N: 1}, "false": {Kind: value.Bool}, "''": {Kind: value.Text}, "'a'": {Kind: value.Text, S: "a"}, "'1'": {Kind: value.Text, S: "1"}, "'@\t\n\xff'": {Kind: value.Text, S: "@\t\n\xff"},
		"'" + strings.Repeat("z", 64) + "'": {Kind: value.Text, S: strings.Repeat("z", 64)},
	} {
		if v, ok := script.Value(s); v != want || !ok || value.Show(v) != s {
			t.Error(s, v, ok)
		}
	}
	for _, s := range []string{"", "'", "'''", "'a", "a'", "'a'b'", "'a b'", "' '", "?", "True", "TRUE", "01", "-0", "a", "\"a\"", "'" + strings.Repeat("z", 65) + "'", "9223372036854775808"} {
		if v, ok := script.Value(s); v != (value.Value{}) || ok {
			t.Error(s, v, ok)
		}
	}
}

// TestText (P22.1): matches as texts, whichever they are.
func TestText(t *testing.T) {
	for want, m := range map[string]denote.Match{
		"@0": {}, "0@5": {Parts: [][]int{{0}}, At: 5}, "0,1;-;2@-7": {Parts: [][]int{{0, 1}, nil, {2}}, At: -7}, "-;-@1": {Parts: [][]int{{}, nil}, At: 1},
		"3@9 7 true 'a b' ?":                         {Parts: [][]int{{3}}, At: 9, E: event.Event{Time: 4, V: []value.Value{{Kind: value.Int, N: 7}, {Kind: value.Bool, N: 1}, {Kind: value.Text, S: "a b"}, {}}}},
		"-1,9223372036854775807@9223372036854775807": {Parts: [][]int{{-1, math.MaxInt}}, At: math.MaxInt64},
	} {
		if got := script.Text(m); got != want {
			t.Error(got, want)
		}
	}
}

// TestLines (P22.2, P22.3): each kind of line, and its answer.
func TestLines(t *testing.T) {
	b := made(t)
	for i, c := range [][2]string{
		{"quiet", "no"}, {"ready", "ok"}, {"tick", "idle"}, {"run 5", "ok 0"}, {"run 0", "ok 0"}, {"run -1", "ok 0"},
		{"register 10 q = A a[a.x > 0] WITHIN 5 EMIT n: a.x@ r = q x ; B b WITHIN 9 EMIT n: x.n, y: b.y, z: b.z", "ok"},
		{"status q", "rank 0 runs 0 held 0 staged 0 waiting 0 deficit 0"}, {"status r", "rank 1 runs 0 held 0 staged 0 waiting 0 deficit 0"}, {"status A", "error 10"}, {"status z", "error 10"},
		{"offer A 1 5", "ok"}, {"offer A 1 5", "error 8"}, {"offer A 2 true", "error 6"}, {"offer A 2", "error 7"}, {"offer A 2 1 2", "error 7"}, {"offer Z 2 1", "error 10"}, {"offer A -1 1", "error 7"}, {"offer B 2 true 'hi'", "ok"}, {"offer C 2", "ok"},
		{"ready", "ok q"}, {"status q", "rank 0 runs 0 held 0 staged 0 waiting 1 deficit 0"}, {"step q", "ok"}, {"status q", "rank 0 runs 0 held 0 staged 1 waiting 0 deficit 0"}, {"step z", "error 10"}, {"step r", "error 15"},
		{"pause q", "ok"}, {"pause q", "error 15"}, {"pause z", "error 10"}, {"ready", "ok"}, {"tick", "idle"}, {"status q", "rank 0 runs 0 held 0 staged 1 waiting 0 deficit 0 paused"}, {"resume q", "ok"}, {"resume q", "error 15"}, {"resume z", "error 10"},
		{"tick", "ok q"}, {"drain q 9", "ok (0@1 5)"}, {"drain q 9", "ok"}, {"drain z 9", "error 10"}, {"drain q -5", "ok"}, {"mark A 2", "error 8"}, {"mark A 7", "ok"}, {"mark A -1", "error 7"}, {"mark Z 9", "error 10"}, {"mark A 1152921504606846977", "error 7"},
		{"drop q", "error 14"}, {"drop z", "error 10"}, {"run 100", "ok 5 r:(0;1@2 5 true 'hi')"}, {"close A", "ok"}, {"close A", "error 13"}, {"close q", "error 10"}, {"offer A 9 1", "error 13"}, {"close B", "ok"}, {"close C", "ok"}, {"quiet", "no"}, {"run 100", "ok 2"}, {"quiet", "yes"},
		{"status q", "rank 0 runs 0 held 0 staged 0 waiting 0 deficit 0 done"}, {"drop r", "ok"}, {"drop q", "ok"}, {"status q", "error 10"},
	} {
		got := b.Do(c[0])
		if strings.HasPrefix(c[0], "run 100") {
			got, c[1] = ticksless(got), ticksless(c[1])
		}
		if got != c[1] {
			t.Errorf("%d %s: %s, want %s", i, c[0], got, c[1])
		}
	}
}

// ticksless is an answer to run without its ticks.
func ticksless(s string) string {
	l := strings.SplitN(s, " ", 3)
	if len(l) > 1 {
		l[1] = "_"
	}
	return strings.Join(l, " ")
}

// TestRegister (P22.2): the texts between the @, and what is wrong with them; what stands there need not be words.
func TestRegister(t *testing.T) {
	b := made(t)
	for _, c := range [][2]string{
		{"register 0 q = A a WITHIN 1", "error 1 in 0 at 0"}, {"register 1001 $", "error 1 in 0 at 0"}, {"register -5 ", "error 1 in 0 at 0"}, {"register 5 ", "error 3 in 0 at 0"}, {"register 5  ", "error 3 in 0 at 1"}, {"register 5 @", "error 3 in 0 at 0"}, {"register 5 q = A a WITHIN 1@", "error 3 in 1 at 0"},
		{"register 5 q = A a WITHIN 1@r = $", "error 2 in 1 at 4"}, {"register 5 q = Z a WITHIN 1", "error 5 in 0 at 0"}, {"register 5 q = A a WITHIN 1@ q = A a WITHIN 1", "error 11 in 1 at 0"}, {"register 5 q = q a WITHIN 1", "error 12 in 0 at 0"}, {"register 5 q = A a[1] WITHIN 1", "error 6 in 0 at 0"},
		{"register 5 @@@@@@@@", "error 9 in 0 at 0"}, {"register 5 " + strings.Repeat(" ", 2049), "error 4 in 0 at 2048"}, {"register 5 q =  A\ta  WITHIN\n 1 ", "ok"}, {"register 1000 s = q a WITHIN 1@r = A a WITHIN 1", "ok"}, {"ready", "ok"}, {"status s", "rank 1 runs 0 held 0 staged 0 waiting 0 deficit 0"},
	} {
		if got := b.Do(c[0]); got != c[1] {
			t.Errorf("%q: %s, want %s", c[0], got, c[1])
		}
	}
}

// TestOther (P22.2, P22.4): any other line says nothing, and turns nothing.
func TestOther(t *testing.T) {
	b := made(t)
	b.Do("register 5 q = A a WITHIN 1")
	b.Do("offer A 1 1")
	for _, line := range []string{
		"", " ", "  ", "tick ", " tick", "tick  ", "tick x", "Tick", "tick\n", "tick\t", "run", "run ", "run x", "run 01", "run 1 2", "run  1", "run 9223372036854775808", "run +1", "ready x", "quiet ", "quiet q", "status", "status ", "status q q", "status  q",
		"step", "step q q", "step ", " step q", "step q ", "step  q", "pause", "pause q 1", "resume", "resume q q", "close", "close A B", "drop", "drop q q", "drop ", "mark", "mark A", "mark A x", "mark A 01", "mark A 5 5", "mark  A 5", "mark A  5", "mark A 5 ",
		"offer", "offer A", "offer A x", "offer A 5 x", "offer A 5 01", "offer A 5  1", "offer A 5 1 ", "offer A  5 1", "offer A 5 'a", "offer A 5 'a b'", "offer A +5 1", "offer A 5 1 ?", "drain", "drain q", "drain q x", "drain q 1 1", "drain q  1", "drain  q 1",
		"register", "register ", "register 5", "register  5 r = A a WITHIN 1", "register x r = A a WITHIN 1", "register 05 r = A a WITHIN 1", "register r = A a WITHIN 1", " register 5 r = A a WITHIN 1", "register\t5 r = A a WITHIN 1", "REGISTER 5 r = A a WITHIN 1", "error 1", "ok", "q", "\x00", "unregister q",
	} {
		if got := b.Do(line); got != "error 1" {
			t.Errorf("%q: %s", line, got)
		}
	}
	if got := b.Do("status q") + "|" + b.Do("ready") + "|" + b.Do("quiet"); got != "rank 0 runs 0 held 0 staged 0 waiting 1 deficit 0|ok q|no" {
		t.Error(got)
	}
	if got := b.Do("status r"); got != "error 10" {
		t.Error(got)
	}
}

// TestStates (P22.2): paused, over and done, in this order.
func TestStates(t *testing.T) {
	told, e := script.Play(config(), "register 5 q = A a ; A b WITHIN 9", "offer A 1 1", "offer A 2 1", "offer A 3 1", "offer A 4 1", "run 99", "close A", "close B", "close C", "run 99", "pause q", "status q", "quiet", "x")
	lines := strings.Split(told, "\n")
	if e != api.OK || len(lines) != 15 || lines[14] != "" || lines[0] != "ok" || ticksless(lines[5]) != "ok _ q:(0;1@2) q:(0;2@3) q:(1;2@3)" || lines[11] != "rank 0 runs 0 held 0 staged 0 waiting 0 deficit 0 paused over done" || lines[12] != "yes" || lines[13] != "error 1" {
		t.Error(told, e)
	}
}

// TestPlay (P22.3): a line feed behind each answer; of no lines nothing.
func TestPlay(t *testing.T) {
	if s, e := script.Play(config()); s != "" || e != api.OK {
		t.Error(s, e)
	}
	if s, e := script.Play(config(), "register 9 q = A a WITHIN 1", "offer A 1 1", "run 1", "run 9", "run 9"); s != "ok\nok\nok 1\nok 1 q:(0@1)\nok 0\n" || e != api.OK {
		t.Error(s, e)
	}
	if s, e := script.Play(config(), "tick", "", "quiet"); s != "idle\nerror 1\nno\n" || e != api.OK {
		t.Error(s, e)
	}
}

// TestRepeat (P4): the same lines tell the same.
func TestRepeat(t *testing.T) {
	lines := []string{"register 3 p = A a WITHIN 1 EMIT x: a.x@q = p | A a ; p b WITHIN 9@r = C c ; !B b WITHIN 2"}
	for i := range 20 {
		lines = append(lines, "offer A "+strconv.Itoa(i)+" 1", "offer C "+strconv.Itoa(i), "mark B "+strconv.Itoa(i), "run "+strconv.Itoa(i%7), "tick", "ready", "status q")
	}
	first, _ := script.Play(config(), lines...)
	for range 5 {
		if again, _ := script.Play(config(), lines...); again != first {
			t.Fatal("another play")
		}
	}
}
