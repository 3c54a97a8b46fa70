// Package grammar is what layers 3 to 5 share: expressions, queries and changes, which stand within each other and within programs, as strings and as trees.
package grammar

import (
	"slices"
	"strings"

	"justiciar/api"
	"justiciar/lex"
)

// ParseExpr returns the expression that a string says, or its first fault.
func ParseExpr(s string) (api.Expr, api.Fault) {
	return Parse(s, (*Reader).Expr, func(e *api.Expr) api.Errno { return flawOf(Node{Expr: e}) })
}

// ParseQuery returns the query that a string says, which may be for update, or its first fault.
func ParseQuery(s string) (api.Query, api.Fault) {
	return Parse(s, (*Reader).WholeQuery, func(q *api.Query) api.Errno { return flawOf(Node{Query: q}) })
}

// ParseChange returns the change that a string says, or its first fault.
func ParseChange(s string) (api.Change, api.Fault) {
	return Parse(s, (*Reader).Change, func(x *api.Change) api.Errno { return flawOf(Node{Change: x}) })
}

// Parse returns what a rule reads, if it is all tokens of a string and a closure finds no flaw in it, or the string's first fault.
func Parse[T any](s string, rule func(r *Reader) T, flaw func(x *T) api.Errno) (T, api.Fault) {
	var none T
	l, f := lex.Lex(s)
	if f.Code != api.OK {
		return none, f
	}
	r := &Reader{left: l, end: endOf(s)}
	first := r.Next()
	x := rule(r)
	r.finish()
	r.Check(first, func() api.Errno { return flaw(&x) })
	if r.fault.Code != api.OK {
		return none, r.fault
	}
	return x, api.Fault{}
}

// Text returns the string of a node.
func Text(n Node) (string, api.Errno) {
	if !Valid(n) {
		return "", api.ErrArg
	}
	var w Writer
	w.node(n)
	return w.Text()
}

// Paths returns the paths that a closure finds in a node and those within it, each once, in the order in which they stand.
func Paths(n Node, find func(n Node) []string) ([][]string, api.Errno) {
	if !Valid(n) {
		return nil, api.ErrArg
	}
	var l [][]string
	seen := map[string]bool{}
	for inner := range Nodes(n) {
		path := find(inner)
		if key := strings.Join(path, "."); key != "" && !seen[key] {
			seen[key] = true
			l = append(l, slices.Clone(path))
		}
	}
	return l, api.OK
}
