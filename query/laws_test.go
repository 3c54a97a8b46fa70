package query_test

import (
	"maps"
	"math/rand/v2"
	"reflect"
	"slices"
	"strings"
	"testing"

	"justiciar/api"
)

// maker makes queries and changes by chance, the same ones in each run.
type maker struct {
	*rand.Rand
	exprs []api.Expr
}

func newMaker() maker {
	m := maker{Rand: rand.New(rand.NewPCG(4, 6))}
	for _, time := range slices.Sorted(maps.Keys(times())) {
		m.exprs = append(m.exprs, ex(time))
	}
	for _, x := range querySamples() {
		q := copied(x.tree)
		q.Lock = false
		inner := []api.Query{q}
		m.exprs = append(m.exprs, api.Expr{Op: api.EQuery, Query: inner}, api.Expr{Op: api.EUnary, Text: "not", Kids: []api.Expr{{Op: api.EExists, Query: inner}}})
	}
	return m
}

func (m maker) name() string {
	return []string{"a", "b1", "c_", "others", "zero_divide"}[m.IntN(5)]
}

func (m maker) names(least, most int) []string {
	var l []string
	for range least + m.IntN(most-least+1) {
		l = append(l, m.name())
	}
	return l
}

func (m maker) some(least, most int) []api.Expr {
	var l []api.Expr
	for range least + m.IntN(most-least+1) {
		l = append(l, copied(m.exprs[m.IntN(len(m.exprs))]))
	}
	return l
}

func (m maker) query() api.Query {
	q := api.Query{Distinct: m.IntN(2) == 0, Star: m.IntN(3) == 0, Where: m.some(0, 1), Group: m.some(0, 3), Having: m.some(0, 1), Lock: m.IntN(2) == 0}
	for _, e := range m.some(1, 4) {
		if !q.Star {
			q.List = append(q.List, api.Item{Expr: e, As: strings.Join(m.names(0, 1), "")})
		}
	}
	for range 1 + m.IntN(4) {
		q.From = append(q.From, api.Source{Path: m.names(1, 2), AsOf: m.some(0, 1), As: strings.Join(m.names(0, 1), "")})
	}
	for _, e := range m.some(0, 3) {
		q.Order = append(q.Order, api.Order{Expr: e, Desc: m.IntN(2) == 0})
	}
	return q
}

func (m maker) change() api.Change {
	x := api.Change{Op: api.ChangeOp(1 + m.IntN(3)), Path: m.names(1, 2)}
	switch {
	case x.Op == api.CInsert && m.IntN(2) == 0:
		x.Cols, x.Vals = m.names(0, 4), m.some(1, 4)
	case x.Op == api.CInsert:
		q := m.query()
		q.Lock = false
		x.Cols, x.Query = m.names(0, 4), []api.Query{q}
	case x.Op == api.CUpdate:
		x.Vals = m.some(1, 5)
		x.Cols = m.names(len(x.Vals), len(x.Vals))
	}
	if x.Op != api.CInsert {
		x.Where = m.some(0, 1)
	}
	return x
}

// expectRoundTrip expects that trees that a closure makes are what their strings are read as.
func expectRoundTrip[T any](t *testing.T, k kind[T], make func() T) {
	t.Helper()
	for range 2000 {
		x := make()
		s := k.string(t, x)
		if got, f := k.parse(s); f != (api.Fault{}) || !k.same(got, x) || !reflect.DeepEqual(bare(got), bare(x)) || k.string(t, got) != s {
			t.Fatalf("%.300q: %v %s, want %s", s, f, short(got), short(x))
		}
	}
}

// P4.5
func TestRoundTrip(t *testing.T) {
	m := newMaker()
	expectRoundTrip(t, queries(), m.query)
	expectRoundTrip(t, changes(), m.change)
}

func expectSpread[T any](t *testing.T, k kind[T], l []sample[T]) {
	t.Helper()
	for _, x := range l {
		spread := "--\n " + strings.ReplaceAll(x.want, " ", " -- ' for update\n\t\r ")
		if got := k.tree(t, spread); !k.same(got, x.tree) {
			t.Errorf("%q: %s, want %s", spread, short(got), short(x.tree))
		}
	}
}

// P4.5: of strings, however their tokens stand.
func TestRoundTripOfStrings(t *testing.T) {
	expectSpread(t, queries(), querySamples())
	expectSpread(t, changes(), changeSamples())
}

// part is one of a query's that need not be there.
type part struct {
	text string
	drop func(q *api.Query)
}

func parts() []part {
	return []part{
		{" where a = b or exists (select c from t where d order by e)", func(q *api.Query) { q.Where = nil }},
		{" group by a, b + c", func(q *api.Query) { q.Group = nil }},
		{" having count(*) > (select d from t group by e having f)", func(q *api.Query) { q.Having = nil }},
		{" order by a desc, b, - c desc", func(q *api.Query) { q.Order = nil }},
		{" for update", func(q *api.Query) { q.Lock = false }},
	}
}

// P4.6: a query without some of its parts is read without them, and the same else.
func TestWithoutParts(t *testing.T) {
	for _, begin := range []string{"select * from t", "select distinct a, b as c from t x, u.v", "select (select a from t where b) from t as of 1 + 2", "select a from t as of f(b) x"} {
		full := begin
		for _, p := range parts() {
			full += p.text
		}
		for some := range 1 << len(parts()) {
			s, want := begin, queries().tree(t, full)
			for i, p := range parts() {
				if some&(1<<i) != 0 {
					s += p.text
				} else {
					p.drop(&want)
				}
			}
			if got := queries().tree(t, s); !queries().same(got, want) {
				t.Errorf("%s: %s, want %s", s, short(got), short(want))
			}
			if inserted := changes().tree(t, "insert into t "+strings.TrimSuffix(s, " for update")); !queries().same(inserted.Query[0], with(func(q *api.Query) {
				*q = want
				q.Lock = false
			})) {
				t.Errorf("inserted: %s: %s", s, short(inserted))
			}
		}
	}
}

// P4.6: of any query, in its string as well.
func TestWithoutPartsOfAny(t *testing.T) {
	m := newMaker()
	for range 500 {
		full := m.query()
		for _, p := range parts() {
			q := copied(full)
			p.drop(&q)
			if got := queries().tree(t, queries().string(t, q)); !queries().same(got, q) {
				t.Errorf("%s: %s", short(q), short(got))
			}
		}
	}
}
