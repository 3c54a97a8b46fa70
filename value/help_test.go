package value_test

import (
	"strings"
	"testing"

	"justiciar/api"
)

const most = api.MaxInt

var (
	null api.Value
	no   = api.Value{Kind: api.VBool}
	yes  = api.Value{Kind: api.VBool, N: 1}
)

func num(n int) api.Value { return api.Value{Kind: api.VInt, N: n} }

func str(s string) api.Value { return api.Value{Kind: api.VText, Text: s} }

func flag(b bool) api.Value {
	if b {
		return yes
	}
	return no
}

func list(l ...api.Value) []api.Value { return l }

func longest() string { return strings.Repeat("x", api.MaxText) }

// printable returns all bytes that a string may have.
func printable() string {
	var b strings.Builder
	for c := byte(32); c <= 126; c++ {
		b.WriteByte(c)
	}
	return b.String()
}

// invalid returns values that are not valid, by what is wrong with them.
func invalid() map[string]api.Value {
	return map[string]api.Value{
		"null with N":            {N: 1},
		"null with a string":     {Text: "a"},
		"integer too great":      num(most + 1),
		"integer too small":      num(-most - 1),
		"the least int":          num(-1 << 63),
		"integer with a string":  {Kind: api.VInt, N: 1, Text: "1"},
		"string too long":        str(longest() + "x"),
		"string with byte 31":    str("a\x1f"),
		"string with byte 127":   str("\x7f"),
		"string with byte 10":    str("a\nb"),
		"string with a letter ä": str("ä"),
		"string with byte 255":   str("\xff"),
		"string with N":          {Kind: api.VText, N: 1, Text: "a"},
		"bool 2":                 {Kind: api.VBool, N: 2},
		"bool -1":                {Kind: api.VBool, N: -1},
		"bool with a string":     {Kind: api.VBool, N: 1, Text: "a"},
		"kind 4":                 {Kind: 4},
		"kind -1":                {Kind: -1},
	}
}

// samples returns values of all kinds, with those at the limits.
func samples() []api.Value {
	return list(null, no, yes,
		num(0), num(1), num(-1), num(2), num(-2), num(3), num(7), num(-7), num(1<<20), num(-1<<20), num(1<<20+1), num(most-1), num(most), num(-most),
		str(""), str("'"), str("''"), str("a"), str("A"), str("ab"), str("b"), str("%"), str("_"), str("a%"), str("0"), str("-1"), str("null"), str(printable()), str(longest()))
}

// expect compares a result with what it has to be; together with an error that is the zero value.
func expect(t *testing.T, what string, got api.Value, e api.Errno, want api.Value, wantE api.Errno) {
	t.Helper()
	if got != want || e != wantE {
		t.Errorf("%s: %v error %d, want %v error %d", what, got, e, want, wantE)
	}
}
