package answer_test

import (
	"strings"
	"testing"

	"justiciar/answer"
	"justiciar/api"
)

// wide returns the standard call with that many rows in t, s and none.
func wide(t *testing.T, inT, inS, inNone int) call {
	t.Helper()
	return standard(t).with(numbers("u", "t", inT)).with(numbers("u", "s", inS)).with(numbers("u", "none", inNone))
}

// TestRowsLimit: P9.1, a result has at most MaxRows rows, after Distinct, groups and Having.
func TestRowsLimit(t *testing.T) {
	x := wide(t, api.MaxRows, 2, 1)
	x.c = after(t, x.c, "u: create view full as select t.a from t, none;", "u: create view over as select t.a from t, s;", "u: create view back as select distinct t.a from t, s;")
	for s, want := range map[string]int{
		"select a from t":                                              500,
		"select t.a from t, none":                                      500,
		"select a from full":                                           500,
		"select a from back":                                           500,
		"select distinct t.a from t, s":                                500,
		"select distinct a from t order by a desc":                     500,
		"select t.a from t, s where s.a = 1":                           500,
		"select t.a from t, s group by t.a":                            500,
		"select t.a, s.a from t, s group by t.a, s.a having t.a > 250": 500,
		"select 1 from t, s having count(*) = 1000":                    1,
		"select count(*) from s where exists (select 1 from full)":     1,
	} {
		if l, code := x.rows(t, queryOf(t, s), nil); code != api.OK || len(l) != want {
			t.Errorf("%s: %d rows, error %d", s, len(l), code)
		}
	}
	x.expectErrors(t, api.ErrLimit,
		"select t.a from t, s", "select t.a from t, s where t.a > 1 or s.a = 1", "select distinct t.a, s.a from t, s", "select t.a, s.a from t, s group by t.a, s.a",
		"select a from over", "select 1 from over having count(*) > 0", "select z.a from none z, over where false", "select a from none where exists (select 1 from over)",
		"select (select t.a from t, s) from none", "select a from none where exists (select t.a from t, s)",
	)
	x.expectErrors(t, api.ErrZero, "select 1 / (t.a - 500) from t, s", "select t.a from t, s order by 1 / (t.a - 500)")
	x = wide(t, 167, 3, 1) // 501 combinations
	x.expectErrors(t, api.ErrLimit, "select t.a from t, s", "select distinct t.a, s.a from t, s", "select t.a from t, s group by t.a, s.a")
	if l, code := x.rows(t, queryOf(t, "select t.a from t, s where t.a + s.a > 2"), nil); code != api.OK || len(l) != 500 {
		t.Errorf("%d rows, error %d", len(l), code)
	}
}

// TestCombinationsLimit: P9.1, all queries of a call have at most 50,000 combinations together, whatever becomes of them.
func TestCombinationsLimit(t *testing.T) {
	x := wide(t, 500, 100, 20)
	x.c = after(t, x.c, "u: create view half as select 1 as n from t, s where t.a < 50 and s.a < 6 and t.a < 10;", "u: create view most as select count(*) as n from t, s where t.a < 100;", "u: create index ta on t (a);")
	for s, want := range map[string]string{
		"select count(*) from t, s":                           "50000",
		"select count(*) from t, s where t.a = 1 and s.a = 2": "1",
		"select count(*) from s, t":                           "50000",
		"select count(*) from s where s.a < 100 and exists (select 1 from t where t.a < s.a)": "98",
		"select count(*) from s, none where s.a = 7 and exists (select 1 from t)":             "20",
		"select count(*) from t, s, none as of 2":                                             "0",
		"select count(*) from t, s as of 5 p, none as of 2 z, none as of 2 y":                 "0",
	} {
		x.expect(t, [][2]string{{s, want}})
	}
	x.expectErrors(t, api.ErrLimit,
		"select count(*) from t, s, none",
		"select count(*) from t x, t y",
		"select count(*) from t x, t y where x.a = 1 and y.a = 2",
		"select count(*) from t x, t y, t z, t w",
		"select count(*) from t, s where exists (select 1 from none where false)",
		"select count(*) from t, s where t.a = 1 and s.a = 2 and exists (select 1 from s)",
		"select count(*) from none, most",
		"select count(*) from most, most z",
		"select count(*) from none where exists (select n from most)",
		"select (select n from most), (select n from most) from w.t",
		"select 1 / 0 from t, s, none",
		"select count(*) from t, s, none where 1 / 0 = 1",
		"select count(*) from t x, t y where 1 / 0 = 1",
	)
	x.expectErrors(t, api.ErrZero, "select 1 / (t.a - 1) from t, s", "select count(*) from s where exists (select 1 from t) and 1 / (a - 1) = 0", "select count(*) from worse, t, s", "select count(*) from t, t as of (1 / 0) z, t y")
	x.expectErrors(t, api.ErrRange, "select count(*) from t, t as of 8 z, t y")
}

// TestCombinationsTogether: just as many combinations as there may be, and one more, in queries within others, views, and rows.
func TestCombinationsTogether(t *testing.T) {
	for _, x := range []struct {
		inT, inS, inNone int
		s                string
		want             api.Errno
	}{
		{100, 499, 1, "select count(*) from t where exists (select 1 from s)", api.OK},                                 // 100 + 100 * 499
		{100, 500, 1, "select count(*) from t where exists (select 1 from s)", api.ErrLimit},                           // 100 + 100 * 500
		{100, 500, 1, "select count(*) from t where a < 100 and exists (select 1 from s)", api.OK},                     // 100 + 99 * 500
		{500, 99, 1, "select a from t where (select count(*) from s) = 99", api.OK},                                    // 500 + 500 * 99
		{500, 99, 1, "select a, (select max(a) from none) from t where (select count(*) from s) = 99", api.ErrLimit},   // 500 + 500 * 99 + 500
		{500, 98, 1, "select a, (select max(a) from none) from t where (select count(*) from s) = 98", api.OK},         // 500 + 500 * 98 + 500
		{500, 98, 1, "select a from t where (select count(*) from s) = 98 order by (select max(a) from none)", api.OK}, // likewise
		{500, 98, 2, "select a from t where (select count(*) from s) = 98 order by (select max(a) from none)", api.ErrLimit},
		{250, 199, 1, "select count(*) from t, pass", api.OK},                             // 199 + 250 * 199
		{250, 200, 1, "select count(*) from t, pass", api.ErrLimit},                       // 200 + 250 * 200
		{100, 249, 1, "select count(*) from t where exists (select 1 from pass)", api.OK}, // 100 + 100 * (249 + 249)
		{100, 250, 1, "select count(*) from t where exists (select 1 from pass)", api.ErrLimit},
		{500, 100, 1, "select count(*) from t, s group by t.a having t.a = 1", api.OK},                                    // 500 * 100
		{499, 100, 100, "select t.a from t, s group by t.a having t.a = 1 and (select count(*) from none) = 100", api.OK}, // 499 * 100 + 100
		{499, 100, 101, "select t.a from t, s group by t.a having t.a = 1 and (select count(*) from none) = 101", api.ErrLimit},
		{499, 100, 50, "select sum((select count(*) from none)) from t, s where t.a = 1 and s.a < 3", api.OK}, // 499 * 100 + 2 * 50
		{499, 100, 51, "select sum((select count(*) from none)) from t, s where t.a = 1 and s.a < 3", api.ErrLimit},
	} {
		c := wide(t, x.inT, x.inS, x.inNone)
		c.c = after(t, c.c, "u: create view pass as select a from s;")
		if l, code := c.rows(t, queryOf(t, x.s), nil); code != x.want {
			t.Errorf("%d %d %d, %s: %s, error %d, want %d", x.inT, x.inS, x.inNone, x.s, shown(l), code, x.want)
		}
	}
}

// TestChangeLimit: the rows of a change's table are no combinations; those of queries within it are.
func TestChangeLimit(t *testing.T) {
	for inS, want := range map[int]api.Errno{100: api.OK, 101: api.ErrLimit} {
		x := wide(t, 500, inS, 1)
		if l, code := x.find(t, changeOf(t, "delete from t where exists (select 1 from s)")); code != want || code == api.OK && len(l) != 500 {
			t.Errorf("%d: %d rows, error %d", inS, len(l), code)
		}
		if _, code := x.new(t, changeOf(t, "insert into s values ((select count(*) from t, s where t.a > 0), 1)")); code != want {
			t.Errorf("%d: error %d", inS, code)
		}
		if _, code := x.new(t, changeOf(t, "insert into s (a) select count(*) from t, s")); code != want {
			t.Errorf("%d: error %d", inS, code)
		}
		if _, code := x.next(t, changeOf(t, "update t set a = (select count(*) from t, s)"), 1); code != want {
			t.Errorf("%d: error %d", inS, code)
		}
	}
	x := wide(t, 500, 2, 1)
	if l, code := x.new(t, changeOf(t, "insert into s (a) select t.a from t, s where s.a = 1")); code != api.OK || len(l) != 500 {
		t.Errorf("%d rows, error %d", len(l), code)
	}
	if _, code := x.new(t, changeOf(t, "insert into s (a) select t.a from t, s")); code != api.ErrLimit {
		t.Errorf("error %d", code)
	}
}

// TestLarge: the largest arguments are looked at in a short time, and those beyond the limits, too.
func TestLarge(t *testing.T) {
	x := wide(t, 500, 100, 1)
	cols := strings.Repeat("t.a + s.a - t.a * 2 > 0 and ", 20) + "true"
	x.expect(t, [][2]string{{"select count(*) from t, s where t.a < 0 or (" + cols + ")", "4950"}})
	x.expect(t, [][2]string{{"select count(*) from t, s group by t.a * 100 + s.a having t.a * 100 + s.a < 0", ""}})
	x.expectErrors(t, api.ErrLimit, "select distinct t.a * 100 + s.a from t, s")
	q := queryOf(t, "select a from t")
	if _, code := answer.Rows(x.c, "u", nil, q, make([]api.Image, 1<<16), nil); code != api.ErrArg {
		t.Errorf("many images: error %d", code)
	}
	if _, code := answer.Rows(x.c, "u", make([]api.Bind, 1<<16), q, x.l, nil); code != api.ErrArg {
		t.Errorf("many binds: error %d", code)
	}
	if _, code := answer.Rows(x.c, "u", nil, q, x.l, make([]api.Way, 1<<16)); code != api.ErrArg {
		t.Errorf("many ways: error %d", code)
	}
	if _, code := answer.Value(x.c, "u", "t", nil, exprOf(t, "a"), make(api.Row, 1<<16)); code != api.ErrArg {
		t.Errorf("many values: error %d", code)
	}
}
