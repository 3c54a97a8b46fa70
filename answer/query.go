package answer

import (
	"slices"

	"justiciar/aggregate"
	"justiciar/api"
	"justiciar/list"
	"justiciar/value"
)

// result is a row of a query's result, the values that it is ordered by, and the rows of sources of which it comes.
type result struct {
	row   api.Row
	order []api.Value
	from  combination
}

// query returns a query's rows, by ways to those of its sources (none: through all of them), in a scope that has no rows yet.
func (k *calculation) query(q *api.Query, s *scope, ways []api.Way) []result {
	var l []result
	for _, x := range k.scopes(q, s, k.kept(q, s, ways)) {
		if list.Each(q.Having, func(e *api.Expr) bool { return k.isTrue(e, x) }) {
			l = append(l, k.result(q, x))
		}
	}
	if q.Distinct {
		l = distinct(l)
	}
	slices.SortStableFunc(l, func(a, b result) int { return compare(q.Order, a.order, b.order) })
	want(len(l) <= api.MaxRows, api.ErrLimit)
	return l
}

// spots returns the rows of its only source that a query finds.
func (k *calculation) spots(q *api.Query) []api.Spot {
	var ids []int
	for _, r := range k.query(q, k.outside(), nil) {
		ids = append(ids, r.from[0].Id)
	}
	slices.Sort(ids)
	key := keyOf(&q.From[0])
	var l []api.Spot
	for _, id := range ids {
		l = append(l, api.Spot{Owner: key[0], Name: key[1], Id: id})
	}
	return l
}

// scopes returns what rows of the result are calculated with: each combination of rows, or each group of these.
func (k *calculation) scopes(q *api.Query, s *scope, l []combination) []*scope {
	var scopes []*scope
	if !aggregate.Groups(q) {
		for _, rows := range l {
			scopes = append(scopes, s.with(rows))
		}
		return scopes
	}
	for _, group := range k.groups(q.Group, s, l) {
		scopes = append(scopes, s.withGroup(group))
	}
	return scopes
}

// groups puts combinations for which the values of expressions are the same into one group; without expressions all are in one, even if there are none.
func (k *calculation) groups(by []api.Expr, s *scope, l []combination) [][]combination {
	if len(by) == 0 {
		return [][]combination{l}
	}
	var groups [][]combination
	at := map[string]int{}
	for _, rows := range l {
		text := textOf(k.exprs(by, s.with(rows)))
		i, known := at[text]
		if !known {
			i = len(groups)
			at[text] = i
			groups = append(groups, nil)
		}
		groups[i] = append(groups[i], rows)
	}
	return groups
}

// textOf returns a string that only the same values have.
func textOf(l []api.Value) string {
	var b []byte
	for _, v := range l {
		s, code := value.Text(v)
		wantOK(code)
		b = append(append(b, s...), ',')
	}
	return string(b)
}

// result calculates a row of the result.
func (k *calculation) result(q *api.Query, s *scope) result {
	r := result{from: s.rows}
	for i := range q.List {
		r.row = append(r.row, k.expr(&q.List[i].Expr, s))
	}
	for i := range q.Order {
		r.order = append(r.order, k.expr(&q.Order[i].Expr, s))
	}
	return r
}

// distinct returns the first ones of results whose rows are the same.
func distinct(l []result) []result {
	var first []result
	seen := map[string]bool{}
	for _, r := range l {
		text := textOf(r.row)
		if !seen[text] {
			seen[text] = true
			first = append(first, r)
		}
	}
	return first
}

// compare says which of two results comes first, by the values that they are ordered by.
func compare(l []api.Order, a, b []api.Value) int {
	for i := range l {
		n, code := value.Order(a[i], b[i])
		wantOK(code)
		if l[i].Desc {
			n = -n
		}
		if n != 0 {
			return n
		}
	}
	return 0
}
