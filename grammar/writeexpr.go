package grammar

import (
	"justiciar/api"
	"justiciar/lex"
	"justiciar/value"
)

// writer writes the tokens of what is valid.
type writer struct{ tokens []api.Token }

// put writes names, words and signs.
func (w *writer) put(l ...string) {
	for _, s := range l {
		kind := api.TokSign
		if lex.Word(s) {
			kind = api.TokWord
		} else if lex.Name(s) {
			kind = api.TokName
		}
		w.tokens = append(w.tokens, api.Token{Kind: kind, Text: s})
	}
}

// putIf writes words, if they are wanted.
func (w *writer) putIf(wanted bool, l ...string) {
	if wanted {
		w.put(l...)
	}
}

func (w *writer) path(path []string) {
	for i, s := range path {
		w.putIf(i > 0, ".")
		w.put(s)
	}
}

// writeList writes the elements of a list, with commas between.
func writeList[T any](w *writer, l []T, write func(x T)) {
	for i, x := range l {
		w.putIf(i > 0, ",")
		write(x)
	}
}

// node writes a node of any kind.
func (w *writer) node(n Node) {
	switch {
	case n.Expr != nil:
		w.expr(*n.Expr)
	case n.Query != nil:
		w.query(*n.Query)
	case n.Source != nil:
		w.source(*n.Source)
	case n.Change != nil:
		w.change(*n.Change)
	}
}

func (w *writer) expr(e api.Expr) {
	switch e.Op {
	case api.EConst:
		w.constant(e.Val)
	case api.EName:
		w.putIf(e.Text != "", e.Text)
		w.path(e.Path)
	case api.EUnary:
		w.put(e.Text)
		w.operand(e.Kids[0])
	case api.EBinary:
		w.operand(e.Kids[0])
		w.put(e.Text)
		w.operand(e.Kids[1])
	case api.ENull, api.EIn, api.EBetween:
		w.operand(e.Kids[0])
		w.test(e)
	case api.ECase:
		w.cases(e.Kids)
	case api.ECall:
		w.path(e.Path)
		w.list(e.Kids)
	case api.EStar:
		w.put("count", "(", "*", ")")
	case api.EQuery:
		w.subquery(e.Query[0])
	case api.EExists:
		w.put("exists")
		w.subquery(e.Query[0])
	case api.EMark:
		w.path(e.Path)
		w.put("%", e.Text)
	}
}

func (w *writer) constant(v api.Value) {
	switch v.Kind {
	case api.VInt:
		w.tokens = append(w.tokens, api.Token{Kind: api.TokInt, N: v.N})
	case api.VText:
		w.tokens = append(w.tokens, api.Token{Kind: api.TokText, Text: v.Text})
	default: // they are words
		s, _ := value.Text(v)
		w.put(s)
	}
}

// operand writes an expression that stands beside an operation; in brackets, if it is one itself.
func (w *writer) operand(e api.Expr) {
	switch e.Op {
	case api.EUnary, api.EBinary, api.ENull, api.EIn, api.EBetween:
		w.list([]api.Expr{e})
	default:
		w.expr(e)
	}
}

// test writes what stands behind the operand of a test.
func (w *writer) test(e api.Expr) {
	switch e.Op {
	case api.ENull:
		w.put("is")
		w.putIf(e.Not, "not")
		w.put("null")
	case api.EIn:
		w.putIf(e.Not, "not")
		w.put("in")
		w.list(e.Kids[1:])
	case api.EBetween:
		w.putIf(e.Not, "not")
		w.put("between")
		w.operand(e.Kids[1])
		w.put("and")
		w.operand(e.Kids[2])
	}
}

// list writes expressions in brackets.
func (w *writer) list(l []api.Expr) {
	w.put("(")
	writeList(w, l, w.expr)
	w.put(")")
}

func (w *writer) cases(l []api.Expr) {
	w.put("case")
	for len(l) > 1 {
		w.put("when")
		w.expr(l[0])
		w.put("then")
		w.expr(l[1])
		l = l[2:]
	}
	w.clause("else", l)
	w.put("end")
}

// clause writes a word and the expression behind it, if it is there.
func (w *writer) clause(word string, l []api.Expr) {
	for _, e := range l {
		w.put(word)
		w.expr(e)
	}
}
