package lex

import (
	"slices"
	"strings"

	"justiciar/api"
	"justiciar/value"
)

// Text returns the string of tokens, with a blank between two.
func Text(l []api.Token) (string, api.Errno) {
	var b strings.Builder
	for i, t := range l {
		s, ok := written(t)
		if !ok {
			return "", api.ErrArg
		}
		if b.Len() > api.MaxSource { // too long already, but a later one may be no token
			continue
		}
		if i > 0 {
			b.WriteByte(' ')
		}
		b.WriteString(s)
	}
	if b.Len() > api.MaxSource {
		return "", api.ErrLimit
	}
	return b.String(), api.OK
}

// Same reports whether tokens are the same but for their positions.
func Same(a, b []api.Token) bool {
	return slices.EqualFunc(a, b, func(x, y api.Token) bool {
		return x.Kind == y.Kind && x.Text == y.Text && x.N == y.N
	})
}

// written returns a token's string; false, unless it is a token.
func written(t api.Token) (string, bool) {
	switch t.Kind {
	case api.TokName:
		return t.Text, t.N == 0 && Name(t.Text)
	case api.TokWord:
		return t.Text, t.N == 0 && Word(t.Text)
	case api.TokInt:
		s, e := value.Text(api.Value{Kind: api.VInt, N: t.N, Text: t.Text})
		return s, t.N >= 0 && e == api.OK
	case api.TokText:
		s, e := value.Text(api.Value{Kind: api.VText, N: t.N, Text: t.Text})
		return s, e == api.OK
	case api.TokSign:
		return t.Text, t.N == 0 && isSign(t.Text)
	}
	return "", false
}
