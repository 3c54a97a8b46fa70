package expr

import (
	"slices"

	"justiciar/api"
	"justiciar/value"
)

// Same reports whether two expressions are the same but for positions.
func Same(a, b api.Expr) bool {
	return a.Op == b.Op && slices.Equal(a.Path, b.Path) && a.Text == b.Text && a.Not == b.Not && value.Same(a.Val, b.Val) &&
		a.A == b.A && a.B == b.B && a.C == b.C && sameExprs(a.Kids, b.Kids) && slices.EqualFunc(a.Query, b.Query, sameQuery)
}

func sameExprs(a, b []api.Expr) bool { return slices.EqualFunc(a, b, Same) }

func sameQuery(a, b api.Query) bool {
	return a.Distinct == b.Distinct && a.Star == b.Star && a.Lock == b.Lock &&
		slices.EqualFunc(a.List, b.List, sameItem) && slices.EqualFunc(a.From, b.From, sameSource) && sameExprs(a.Where, b.Where) &&
		sameExprs(a.Group, b.Group) && sameExprs(a.Having, b.Having) && slices.EqualFunc(a.Order, b.Order, sameOrder)
}

func sameItem(a, b api.Item) bool { return a.As == b.As && Same(a.Expr, b.Expr) }

func sameSource(a, b api.Source) bool {
	return slices.Equal(a.Path, b.Path) && a.As == b.As && sameExprs(a.AsOf, b.AsOf)
}

func sameOrder(a, b api.Order) bool { return a.Desc == b.Desc && Same(a.Expr, b.Expr) }
