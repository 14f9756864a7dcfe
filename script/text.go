package script

import (
	"strconv"
	"strings"

	"marshalling/denote"
	"marshalling/value"
)

// Number tells the number that is shown as s.
func Number(s string) (int64, bool) {
	n, err := strconv.ParseInt(s, 10, 64)
	if err != nil || strconv.FormatInt(n, 10) != s {
		return 0, false
	}
	return n, true
}

// Value tells the value that is shown as s, if that can be a word.
func Value(s string) (value.Value, bool) {
	if n, ok := Number(s); ok {
		return value.Value{Kind: value.Int, N: n}, true
	}
	if s == "true" || s == "false" {
		v := value.Value{Kind: value.Bool}
		if s == "true" {
			v.N = 1
		}
		return v, true
	}
	if len(s) < 2 || s[0] != '\'' || s[len(s)-1] != '\'' {
		return value.Value{}, false
	}
	v := value.Value{Kind: value.Text, S: s[1 : len(s)-1]}
	if !value.Right(v) || strings.ContainsAny(v.S, " '") {
		return value.Value{}, false
	}
	return v, true
}

// Text tells m as a text.
func Text(m denote.Match) string {
	parts := make([]string, 0, len(m.Parts))
	for _, list := range m.Parts {
		parts = append(parts, indexes(list))
	}
	text := strings.Join(parts, ";") + "@" + strconv.FormatInt(m.At, 10)
	for _, v := range m.E.V {
		text += " " + value.Show(v)
	}
	return text
}

func indexes(list []int) string {
	if len(list) == 0 {
		return "-"
	}
	texts := make([]string, 0, len(list))
	for _, i := range list {
		texts = append(texts, strconv.Itoa(i))
	}
	return strings.Join(texts, ",")
}
