package grammar

import (
	"slices"

	"justiciar/api"
	"justiciar/value"
)

// SameExpr reports whether two expressions are the same but for positions.
func SameExpr(a, b api.Expr) bool {
	return a.Op == b.Op && slices.Equal(a.Path, b.Path) && a.Text == b.Text && a.Not == b.Not && value.Same(a.Val, b.Val) &&
		a.A == b.A && a.B == b.B && a.C == b.C && sameExprs(a.Kids, b.Kids) && sameQueries(a.Query, b.Query)
}

// SameQuery reports whether two queries are the same but for positions.
func SameQuery(a, b api.Query) bool {
	return a.Distinct == b.Distinct && a.Star == b.Star && a.Lock == b.Lock &&
		slices.EqualFunc(a.List, b.List, sameItem) && slices.EqualFunc(a.From, b.From, sameSource) && sameExprs(a.Where, b.Where) &&
		sameExprs(a.Group, b.Group) && sameExprs(a.Having, b.Having) && slices.EqualFunc(a.Order, b.Order, sameOrder)
}

// SameChange reports whether two changes are the same but for positions.
func SameChange(a, b api.Change) bool {
	return a.Op == b.Op && slices.Equal(a.Path, b.Path) && slices.Equal(a.Cols, b.Cols) &&
		sameExprs(a.Vals, b.Vals) && sameQueries(a.Query, b.Query) && sameExprs(a.Where, b.Where)
}

func sameExprs(a, b []api.Expr) bool { return slices.EqualFunc(a, b, SameExpr) }

func sameQueries(a, b []api.Query) bool { return slices.EqualFunc(a, b, SameQuery) }

func sameItem(a, b api.Item) bool { return a.As == b.As && SameExpr(a.Expr, b.Expr) }

func sameSource(a, b api.Source) bool {
	return slices.Equal(a.Path, b.Path) && a.As == b.As && sameExprs(a.AsOf, b.AsOf)
}

func sameOrder(a, b api.Order) bool { return a.Desc == b.Desc && SameExpr(a.Expr, b.Expr) }
