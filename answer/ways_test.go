package answer_test

import (
	"testing"

	"justiciar/api"
	"justiciar/choose"
)

// waysOf returns all lists of ways to the sources of a query.
func waysOf(t *testing.T, x call, q api.Query) [][]api.Way {
	t.Helper()
	lists := [][]api.Way{nil}
	for source := range q.From {
		ways, code := choose.Ways(x.c, x.user, x.binds, q, source)
		if code != api.OK {
			t.Fatalf("no ways: error %d", code)
		}
		var longer [][]api.Way
		for _, l := range lists {
			for _, w := range ways {
				longer = append(longer, append(l[:len(l):len(l)], w))
			}
		}
		lists = longer
	}
	return lists
}

// TestWays: P9.1 and P9.7, the rows are the same by all ways, and so is the error.
func TestWays(t *testing.T) {
	x := standard(t)
	x.c = after(t, x.c, "u: create index f on t (c, b, a);")
	for s, want := range map[string]int{
		"select * from t":                                                                           1,
		"select * from t where a = 1":                                                               2,
		"select * from t where b = x and a = one":                                                   4,
		"select * from t where b = 'x' and a = 1 and c = true":                                      7,
		"select * from t where a = 1 and a = 2":                                                     2,
		"select * from t where a = 1 and b = 'x' and a = nil":                                       4,
		"select * from t where a = 3 and b = null":                                                  4,
		"select * from t where 1 / (a - 2) = 1 and b = 'x' and a = 1":                               4,
		"select * from t where 1 / (a - 1) = 1 and b = 'x'":                                         2,
		"select count(*), sum(a) from t where b = 'x'":                                              2,
		"select t.a, s.d from t, s where s.a = t.a and s.a = 1 and t.b = 'x' order by t.c":          4,
		"select t.a, z.a, s.d from t, t z, s where z.a = 1 and s.a = 2 and z.b = 'x' and t.b = 'y'": 16,
		"select p.a, v.n, t.b from t as of 5 p, v, t where p.a = 1 and v.a = 1 and t.a = 1":         2,
		"select distinct b from t where a = 1 and exists (select 1 from s where s.a = 1)":           2,
		"select d from s where a = 2 for update":                                                    2,
		"select 1 from none where a = 1":                                                            1,
	} {
		q := queryOf(t, s)
		rows, code := x.rows(t, q, nil)
		lists := waysOf(t, x, q)
		if len(lists) != want {
			t.Errorf("%s: %d lists of ways, want %d", s, len(lists), want)
		}
		for _, l := range lists {
			if got, codeBy := x.rows(t, q, l); codeBy != code || shown(got) != shown(rows) {
				t.Errorf("%s by %v: %s, error %d, without ways %s, error %d", s, l, shown(got), codeBy, shown(rows), code)
			}
		}
	}
}

// TestNoWays: P9.1, ways that are not those of the query.
func TestNoWays(t *testing.T) {
	x := standard(t)
	all, i1, i2, j1, k1 := api.Way{}, api.Way{Owner: "u", Name: "i", Cols: 1}, api.Way{Owner: "u", Name: "i", Cols: 2}, api.Way{Owner: "u", Name: "j", Cols: 1}, api.Way{Owner: "w", Name: "k", Cols: 1}
	for _, one := range []struct {
		s    string
		l    []api.Way
		want api.Errno
	}{
		{"select 1 from t where a = 1", nil, api.OK},
		{"select 1 from t where a = 1", []api.Way{}, api.OK},
		{"select 1 from t where a = 1", []api.Way{all}, api.OK},
		{"select 1 from t where a = 1", []api.Way{i1}, api.OK},
		{"select 1 from t where a = 1", []api.Way{i2}, api.ErrArg},
		{"select 1 from t where a = 1", []api.Way{j1}, api.ErrArg},
		{"select 1 from t where a = 1", []api.Way{k1}, api.ErrArg},
		{"select 1 from t where a = 1", []api.Way{i1, i1}, api.ErrArg},
		{"select 1 from t where a = 1", []api.Way{all, all}, api.ErrArg},
		{"select 1 from t where a = 1", []api.Way{{Cols: 1}}, api.ErrArg},
		{"select 1 from t where a = 1", []api.Way{{Owner: "u", Name: "i"}}, api.ErrArg},
		{"select 1 from t where a = 1", []api.Way{{Owner: "u", Name: "i", Cols: -1}}, api.ErrArg},
		{"select 1 from t where a = 1", []api.Way{{Owner: "u", Name: "t", Cols: 1}}, api.ErrArg},
		{"select 1 from t where a > 1", []api.Way{i1}, api.ErrArg},
		{"select 1 from t as of 5 where a = 1", []api.Way{i1}, api.ErrArg},
		{"select 1 from t as of 5 where a = 1", []api.Way{all}, api.OK},
		{"select 1 from v where a = 1", []api.Way{i1}, api.ErrArg},
		{"select 1 from t, s where t.a = 1 and s.a = 1", []api.Way{i1, k1}, api.OK},
		{"select 1 from t, s where t.a = 1 and s.a = 1", []api.Way{k1, i1}, api.ErrArg},
		{"select 1 from t, s where t.a = 1 and s.a = 1", []api.Way{i1}, api.ErrArg},
		{"select 1 / 0 from t where a = 1", []api.Way{i2}, api.ErrArg},
		{"select 1 / 0 from t where a = 1", []api.Way{i1}, api.ErrZero},
		{"select z from t where a = 1", []api.Way{i2}, api.ErrName},
	} {
		if l, code := x.rows(t, queryOf(t, one.s), one.l); code != one.want {
			t.Errorf("%s by %v: %s, error %d, want %d", one.s, one.l, shown(l), code, one.want)
		}
	}
	x.l = nil
	for _, s := range []string{"select 1 from t where a = 1", "select z from t where a = 1"} {
		if _, code := x.rows(t, queryOf(t, s), []api.Way{i2}); code != api.ErrArg {
			t.Errorf("%s without images: error %d", s, code)
		}
	}
}

// TestWaysLimit: combinations are counted whatever the ways.
func TestWaysLimit(t *testing.T) {
	x := wide(t, 500, 101, 100)
	i := api.Way{Owner: "u", Name: "i", Cols: 1}
	if l, code := x.rows(t, queryOf(t, "select 1 from t, none where t.a = 1"), []api.Way{i, {}}); code != api.OK || len(l) != 100 {
		t.Errorf("%d rows, error %d", len(l), code)
	}
	if _, code := x.rows(t, queryOf(t, "select 1 from t, s where t.a = 1"), []api.Way{i, {}}); code != api.ErrLimit {
		t.Errorf("error %d", code)
	}
}
