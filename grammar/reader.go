package grammar

import (
	"strings"

	"justiciar/api"
	"justiciar/lex"
)

// Reader reads the tokens of a string up to the first fault. Then none is left, so that no rule of the grammar reads on.
type Reader struct {
	left  []api.Token
	end   api.Fault // that the string ends where a token is needed
	fault api.Fault // the first one
}

// endOf returns the fault that a string ends too early.
func endOf(s string) api.Fault {
	return api.Fault{Code: api.ErrEnd, Line: strings.Count(s, "\n") + 1, Col: len(s) - strings.LastIndexByte(s, '\n')}
}

// note notes a fault, if it is the first one.
func (r *Reader) note(f api.Fault) {
	if r.fault.Code == api.OK {
		r.fault = f
	}
	r.left = nil
}

// More reports whether there are more tokens to be read.
func (r *Reader) More() bool { return len(r.left) > 0 }

// finish wants no more tokens.
func (r *Reader) finish() {
	if r.More() {
		r.Fail()
	}
}

// Next returns the next token; the zero token, if none is left.
func (r *Reader) Next() api.Token { return r.behind(0) }

// behind returns the token that stands behind so many others.
func (r *Reader) behind(many int) api.Token {
	if len(r.left) <= many {
		return api.Token{}
	}
	return r.left[many]
}

// skip goes behind the next token, which is there.
func (r *Reader) skip() { r.left = r.left[1:] }

// Fail notes that the next token cannot stand where it does.
func (r *Reader) Fail() {
	if !r.More() {
		r.note(r.end)
		return
	}
	t := r.Next()
	r.note(api.Fault{Code: api.ErrSyntax, Name: nameOf(t), Line: t.Line, Col: t.Col})
}

// nameOf returns what a fault calls a token.
func nameOf(t api.Token) string {
	if t.Kind == api.TokText {
		return "'"
	}
	s, _ := lex.Text([]api.Token{t})
	return s
}

// Refuse notes that what a token begins may not be.
func (r *Reader) Refuse(first api.Token, code api.Errno) {
	r.note(api.Fault{Code: code, Line: first.Line, Col: first.Col})
}

// Check refuses what a token begins, if that has been read without a fault and a closure finds an error in it.
func (r *Reader) Check(first api.Token, flaw func() api.Errno) {
	if r.fault.Code != api.OK {
		return
	}
	if code := flaw(); code != api.OK {
		r.Refuse(first, code)
	}
}

// Stands reports whether a word or sign comes next.
func (r *Reader) Stands(s string) bool { return r.StandsBehind(0, s) }

// StandsBehind reports whether a word or sign stands behind so many other tokens.
func (r *Reader) StandsBehind(many int, s string) bool {
	t := r.behind(many)
	return (t.Kind == api.TokWord || t.Kind == api.TokSign) && t.Text == s
}

// Take reads a word or sign, if it comes next.
func (r *Reader) Take(s string) bool {
	if !r.Stands(s) {
		return false
	}
	r.skip()
	return true
}

// takeOne reads one of some words and signs, if it comes next.
func (r *Reader) takeOne(l ...string) (api.Token, bool) {
	t := r.Next()
	for _, s := range l {
		if r.Take(s) {
			return t, true
		}
	}
	return api.Token{}, false
}

// Want reads one of some words and signs, which has to come next.
func (r *Reader) Want(l ...string) api.Token {
	t, ok := r.takeOne(l...)
	if !ok {
		r.Fail()
	}
	return t
}

// Name reads a name.
func (r *Reader) Name() string {
	t := r.Next()
	if t.Kind != api.TokName {
		r.Fail()
		return ""
	}
	r.skip()
	return t.Text
}

// Integer reads an integer.
func (r *Reader) Integer() int {
	t := r.Next()
	if t.Kind != api.TokInt {
		r.Fail()
		return 0
	}
	r.skip()
	return t.N
}

// Path reads a path of a few names.
func (r *Reader) Path(most int) []string {
	l := []string{r.Name()}
	for len(l) < most && r.Take(".") {
		l = append(l, r.Name())
	}
	return l
}

// ReadList reads what a closure reads, once or more, with commas between.
func ReadList[T any](r *Reader, read func() T) []T {
	l := []T{read()}
	for r.Take(",") {
		l = append(l, read())
	}
	return l
}
