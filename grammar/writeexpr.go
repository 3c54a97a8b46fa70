package grammar

import (
	"justiciar/api"
	"justiciar/lex"
	"justiciar/value"
)

// Writer writes the tokens of what is valid.
type Writer struct{ tokens []api.Token }

// Text returns the string of the tokens.
func (w *Writer) Text() (string, api.Errno) {
	if w.Count() > api.MaxTokens {
		return "", api.ErrLimit
	}
	return lex.Text(w.tokens)
}

// Count returns how many tokens there are.
func (w *Writer) Count() int { return len(w.tokens) }

// Put writes names, words and signs.
func (w *Writer) Put(l ...string) {
	for _, s := range l {
		kind := api.TokSign
		if lex.Word(s) {
			kind = api.TokWord
		} else if lex.Name(s) {
			kind = api.TokName
		}
		w.tokens = append(w.tokens, api.Token{Kind: kind, Text: s})
	}
}

// PutIf writes words, if they are wanted.
func (w *Writer) PutIf(wanted bool, l ...string) {
	if wanted {
		w.Put(l...)
	}
}

// Integer writes an integer that is not below 0.
func (w *Writer) Integer(n int) {
	w.tokens = append(w.tokens, api.Token{Kind: api.TokInt, N: n})
}

// Path writes names with points between.
func (w *Writer) Path(path []string) {
	for i, s := range path {
		w.PutIf(i > 0, ".")
		w.Put(s)
	}
}

// WriteList writes the elements of a list, with commas between.
func WriteList[T any](w *Writer, l []T, write func(x T)) {
	for i, x := range l {
		w.PutIf(i > 0, ",")
		write(x)
	}
}

// node writes a node of any kind.
func (w *Writer) node(n Node) {
	switch {
	case n.Expr != nil:
		w.Expr(*n.Expr)
	case n.Query != nil:
		w.Query(*n.Query)
	case n.Source != nil:
		w.source(*n.Source)
	case n.Change != nil:
		w.Change(*n.Change)
	}
}

// Expr writes an expression.
func (w *Writer) Expr(e api.Expr) {
	switch e.Op {
	case api.EConst:
		w.constant(e.Val)
	case api.EName:
		w.PutIf(e.Text != "", e.Text)
		w.Path(e.Path)
	case api.EUnary:
		w.Put(e.Text)
		w.Operand(e.Kids[0])
	case api.EBinary:
		w.Operand(e.Kids[0])
		w.Put(e.Text)
		w.Operand(e.Kids[1])
	case api.ENull, api.EIn, api.EBetween:
		w.Operand(e.Kids[0])
		w.test(e)
	case api.ECase:
		w.cases(e.Kids)
	case api.ECall:
		w.Path(e.Path)
		w.List(e.Kids)
	case api.EStar:
		w.Put("count", "(", "*", ")")
	case api.EQuery:
		w.subquery(e.Query[0])
	case api.EExists:
		w.Put("exists")
		w.subquery(e.Query[0])
	case api.EMark:
		w.Path(e.Path)
		w.Put("%", e.Text)
	}
}

func (w *Writer) constant(v api.Value) {
	switch v.Kind {
	case api.VInt:
		w.Integer(v.N)
	case api.VText:
		w.tokens = append(w.tokens, api.Token{Kind: api.TokText, Text: v.Text})
	default: // they are words
		s, _ := value.Text(v)
		w.Put(s)
	}
}

// Operand writes an expression that stands beside an operation; in brackets, if it is one itself.
func (w *Writer) Operand(e api.Expr) {
	switch e.Op {
	case api.EUnary, api.EBinary, api.ENull, api.EIn, api.EBetween:
		w.List([]api.Expr{e})
	default:
		w.Expr(e)
	}
}

// test writes what stands behind the operand of a test.
func (w *Writer) test(e api.Expr) {
	switch e.Op {
	case api.ENull:
		w.Put("is")
		w.PutIf(e.Not, "not")
		w.Put("null")
	case api.EIn:
		w.PutIf(e.Not, "not")
		w.Put("in")
		w.List(e.Kids[1:])
	case api.EBetween:
		w.PutIf(e.Not, "not")
		w.Put("between")
		w.Operand(e.Kids[1])
		w.Put("and")
		w.Operand(e.Kids[2])
	}
}

// List writes expressions in brackets.
func (w *Writer) List(l []api.Expr) {
	w.Put("(")
	WriteList(w, l, w.Expr)
	w.Put(")")
}

func (w *Writer) cases(l []api.Expr) {
	w.Put("case")
	for len(l) > 1 {
		w.Put("when")
		w.Expr(l[0])
		w.Put("then")
		w.Expr(l[1])
		l = l[2:]
	}
	w.Clause("else", l)
	w.Put("end")
}

// Clause writes a word and the expression behind it, if it is there.
func (w *Writer) Clause(word string, l []api.Expr) {
	for _, e := range l {
		w.Put(word)
		w.Expr(e)
	}
}
