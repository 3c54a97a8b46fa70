package grammar

import (
	"justiciar/api"
	"justiciar/lex"
)

// reader reads tokens up to the first fault. Then none is left, so that no rule of the grammar reads on.
type reader struct {
	left  []api.Token
	end   api.Fault // that there is no token where one is needed
	fault api.Fault // the first one
}

// next returns the next token; the zero token, if none is left.
func (r *reader) next() api.Token {
	if len(r.left) == 0 {
		return api.Token{}
	}
	return r.left[0]
}

// skip goes behind the next token, which is there.
func (r *reader) skip() { r.left = r.left[1:] }

// fail notes that the next token cannot stand where it does.
func (r *reader) fail() {
	if r.fault.Code == api.OK {
		r.fault = r.wrong()
	}
	r.left = nil
}

func (r *reader) wrong() api.Fault {
	if len(r.left) == 0 {
		return r.end
	}
	t := r.next()
	return api.Fault{Code: api.ErrSyntax, Name: nameOf(t), Line: t.Line, Col: t.Col}
}

// nameOf returns what a fault calls a token.
func nameOf(t api.Token) string {
	if t.Kind == api.TokText {
		return "'"
	}
	s, _ := lex.Text([]api.Token{t})
	return s
}

// finish wants no more tokens.
func (r *reader) finish() {
	if len(r.left) > 0 {
		r.fail()
	}
}

// stands reports whether a word or sign comes next.
func (r *reader) stands(s string) bool {
	t := r.next()
	return (t.Kind == api.TokWord || t.Kind == api.TokSign) && t.Text == s
}

// take reads a word or sign, if it comes next.
func (r *reader) take(s string) bool {
	if !r.stands(s) {
		return false
	}
	r.skip()
	return true
}

// takeOne reads one of some words and signs, if it comes next.
func (r *reader) takeOne(l ...string) (api.Token, bool) {
	t := r.next()
	for _, s := range l {
		if r.take(s) {
			return t, true
		}
	}
	return api.Token{}, false
}

// want reads one of some words and signs, which has to come next.
func (r *reader) want(l ...string) api.Token {
	t, ok := r.takeOne(l...)
	if !ok {
		r.fail()
	}
	return t
}

func (r *reader) name() string {
	t := r.next()
	if t.Kind != api.TokName {
		r.fail()
		return ""
	}
	r.skip()
	return t.Text
}

func (r *reader) path(most int) []string {
	l := []string{r.name()}
	for len(l) < most && r.take(".") {
		l = append(l, r.name())
	}
	return l
}

// readList reads what a closure reads, once or more, with commas between.
func readList[T any](r *reader, read func() T) []T {
	l := []T{read()}
	for r.take(",") {
		l = append(l, read())
	}
	return l
}
