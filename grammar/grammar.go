// Package grammar is what layers 3 and 4 share: expressions, queries and changes, which stand within each other, as strings and as trees.
package grammar

import (
	"slices"
	"strings"

	"justiciar/api"
	"justiciar/lex"
)

// ParseExpr returns the expression that a string says, or its first fault.
func ParseExpr(s string) (api.Expr, api.Fault) {
	return parse(s, func(r *reader) api.Expr { return r.expr() }, func(e *api.Expr) Node { return Node{Expr: e} })
}

// ParseQuery returns the query that a string says, which may be for update, or its first fault.
func ParseQuery(s string) (api.Query, api.Fault) {
	return parse(s, func(r *reader) api.Query { return r.outerQuery() }, func(q *api.Query) Node { return Node{Query: q} })
}

// ParseChange returns the change that a string says, or its first fault.
func ParseChange(s string) (api.Change, api.Fault) {
	return parse(s, func(r *reader) api.Change { return r.change() }, func(x *api.Change) Node { return Node{Change: x} })
}

// parse returns what a rule reads, if it is all tokens of a string, and valid as the node that it is.
func parse[T any](s string, rule func(r *reader) T, nodeOf func(x *T) Node) (T, api.Fault) {
	var none T
	l, f := lex.Lex(s)
	if f.Code != api.OK {
		return none, f
	}
	r := reader{left: l, end: endOf(s)}
	x := rule(&r)
	r.finish()
	if r.fault.Code != api.OK {
		return none, r.fault
	}
	if code := flaw(nodeOf(&x)); code != api.OK {
		return none, api.Fault{Code: code, Line: l[0].Line, Col: l[0].Col}
	}
	return x, api.Fault{}
}

// endOf returns the fault that a string ends too early.
func endOf(s string) api.Fault {
	return api.Fault{Code: api.ErrEnd, Line: strings.Count(s, "\n") + 1, Col: len(s) - strings.LastIndexByte(s, '\n')}
}

// Text returns the string of a node.
func Text(n Node) (string, api.Errno) {
	if !Valid(n) {
		return "", api.ErrArg
	}
	var w writer
	w.node(n)
	if len(w.tokens) > api.MaxTokens {
		return "", api.ErrLimit
	}
	return lex.Text(w.tokens)
}

// Paths returns the paths that a closure finds in a node and those within it, each once, in the order in which they stand.
func Paths(n Node, find func(n Node) []string) ([][]string, api.Errno) {
	if !Valid(n) {
		return nil, api.ErrArg
	}
	var l [][]string
	seen := map[string]bool{}
	for inner := range nodes(n) {
		path := find(inner)
		if key := strings.Join(path, "."); key != "" && !seen[key] {
			seen[key] = true
			l = append(l, slices.Clone(path))
		}
	}
	return l, api.OK
}
