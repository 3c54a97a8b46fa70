package answer_test

import (
	"fmt"
	"slices"
	"strings"
	"testing"

	"justiciar/api"
)

// TestSpots: P9.2, the rows that a query for update finds.
func TestSpots(t *testing.T) {
	x := standard(t)
	spots := func(s string) (string, api.Errno) {
		l, code := x.spots(t, queryOf(t, s))
		var all []string
		for _, spot := range l {
			all = append(all, fmt.Sprint(spot.Owner, ".", spot.Name, " ", spot.Id))
		}
		return strings.Join(all, ", "), code
	}
	expectShown(t, map[string]string{
		"select a from t for update":                             "u.t 1, u.t 3, u.t 4, u.t 8, u.t 9",
		"select * from t for update":                             "u.t 1, u.t 3, u.t 4, u.t 8, u.t 9",
		"select 1 from t where b = 'x' for update":               "u.t 1, u.t 4, u.t 9",
		"select a from t where a > 1 order by a desc for update": "u.t 3, u.t 8",
		"select a from t order by b desc, a desc for update":     "u.t 1, u.t 3, u.t 4, u.t 8, u.t 9",
		"select a from t z where z.a = one and exists (select 1 from s as of 5 where s.a = z.a) for update": "u.t 1, u.t 9",
		"select a from t where false for update":                                                            "",
		"select a from none for update":                                                                     "",
		"select k from w.t for update":                                                                      "w.t 6",
	}, spots)
	expectCodes(t, map[string]api.Errno{
		"select a from t":                                        api.ErrState,
		"select 1 / 0 from t":                                    api.ErrState,
		"select count(*) from t, s":                              api.ErrState,
		"select z from t":                                        api.ErrName,
		"select z from t for update":                             api.ErrName,
		"select a from v for update":                             api.ErrKind,
		"select t.a from t, s for update":                        api.ErrKind,
		"select 1 / (a - 3) from t for update":                   api.ErrZero,
		"select a from t where 1 / (a - 3) = 1 for update":       api.ErrZero,
		"select a from t order by 1 / (a - 3) for update":        api.ErrZero,
		"select a from t where a = (select a from s) for update": api.ErrMany,
		"select (select a from s as of 9) from t for update":     api.ErrRange,
		"select (select a from s as of 1) from t for update":     api.ErrOld,
	}, spots)
}

// TestFind: P9.3, the rows that an update or a delete is for.
func TestFind(t *testing.T) {
	x := standard(t)
	find := func(s string) (string, api.Errno) {
		l, code := x.find(t, changeOf(t, s))
		return fmt.Sprint(l), code
	}
	expectShown(t, map[string]string{
		"delete from t":                                                "[1 3 4 8 9]",
		"delete from t where a = 1":                                    "[1 9]",
		"delete from u.t where t.b = x":                                "[1 4 9]",
		"delete from t where a is null":                                "[4]",
		"delete from t where b is null and c is null":                  "[8]",
		"delete from t where a > 100":                                  "[]",
		"delete from t where null":                                     "[]",
		"delete from none":                                             "[]",
		"delete from none where 1 / 0 = 1":                             "[]",
		"update t set a = 1":                                           "[1 3 4 8 9]",
		"update t set a = 1 / 0, b = 'x' where c":                      "[1]",
		"update t set a = a where a = :new.a or a = 3":                 "[3 8]",
		"update t set a = 1 where 1 / (a - 2) = 1 and a = 3":           "[8]",
		"update t set a = 1 where a <> 2 and 1 / (a - 2) = 1":          "[8]",
		"delete from t where exists (select 1 from s where s.a = t.a)": "[1 3 9]",
		"delete from t where a = (select count(*) from t as of 5)":     "[3]",
		"delete from t where a = (select max(z.a) from t z)":           "[8]",
		"delete from w.t":                                              "[6]",
	}, find)
	expectCodes(t, map[string]api.Errno{
		"insert into t (a) values (1)":                         api.ErrState,
		"insert into t (a) values (1 / 0)":                     api.ErrState,
		"insert into t (a) select a from t":                    api.ErrState,
		"insert into t (z) values (1)":                         api.ErrName,
		"delete from z":                                        api.ErrName,
		"delete from v":                                        api.ErrKind,
		"delete from t where a":                                api.ErrType,
		"delete from t where 1 / (a - 2) = 1":                  api.ErrZero,
		"delete from t where 1 / (a - 2) = 1 and a <> 2":       api.ErrZero,
		"delete from t where a = (select a from s)":            api.ErrMany,
		"delete from t where to_int(b) = 1 or 1 / (a - 3) > 0": api.ErrRange,
		"delete from t where 1 / (a - 1) > 0 or to_int(b) = 1": api.ErrZero,
		"delete from t where case when a = 1 then 1 / 0 when a = 2 then to_int(b) end > 0": api.ErrZero,
		"delete from t where case when a = 2 then 1 / 0 when a = 1 then to_int(b) end > 0": api.ErrRange,
		"delete from t where exists (select 1 from s as of 1)":                             api.ErrOld,
		"delete from t where exists (select 1 from s as of 8)":                             api.ErrRange,
	}, find)
}

// TestFindPresent: the rows of a change are those of the present image.
func TestFindPresent(t *testing.T) {
	x := standard(t)
	x.l = x.l[:2]
	if l, code := x.find(t, changeOf(t, "delete from t")); code != api.OK || !slices.Equal(l, []int{1, 3}) {
		t.Error(l, code)
	}
	if r, code := x.next(t, changeOf(t, "update t set a = a + 1"), 3); code != api.OK || shown([]api.Row{r}) != "3 'y' null" {
		t.Error(r, code)
	}
	if _, code := x.next(t, changeOf(t, "update t set a = a + 1"), 4); code != api.ErrNone {
		t.Error(code)
	}
}

// TestNew: P9.4, the rows of an insert.
func TestNew(t *testing.T) {
	x := standard(t)
	x.c = after(t, x.c, "u: create table d (a int default 1 + 2, b text default 'k', c bool, e int default - 4);", "u: create table r (a int not null, b int default nullif(1, 1));")
	added := func(s string) (string, api.Errno) {
		l, code := x.new(t, changeOf(t, s))
		return shown(l), code
	}
	expectShown(t, map[string]string{
		"insert into t values (5, 'q', true)":                         "5 'q' true",
		"insert into t (a) values (5)":                                "5 null null",
		"insert into t (c, a) values (yes, one + 1)":                  "2 null true",
		"insert into t (b) values (null)":                             "null null null",
		"insert into t (a) values ((select count(*) from t))":         "5 null null",
		"insert into t (a) values ((select count(*) from t as of 5))": "2 null null",
		"insert into t (a) values (:new.a)":                           "2 null null",
		"insert into w.t values (x || 'y')":                           "'xy'",
		"insert into d (c) values (true)":                             "3 'k' true -4",
		"insert into d (e, a) values (null, 7)":                       "7 'k' null null",
		"insert into d values (1, 'b', false, 2)":                     "1 'b' false 2",
		"insert into r (a) values (null)":                             "null null",
		"insert into t (a, b) select a, b from t where b = 'x'":       "1 'x' null | null 'x' null | 1 'x' null",
		"insert into t (b, a) select b, a from t order by a desc":     "null 'x' null | 3 null null | 2 'y' null | 1 'x' null | 1 'x' null",
		"insert into t select * from t as of 2":                       "1 'old' true",
		"insert into d (a) select a from s":                           "1 'k' null -4 | 2 'k' null -4 | 5 'k' null -4",
		"insert into d (c) select distinct c from t":                  "3 'k' true -4 | 3 'k' false -4 | 3 'k' null -4",
		"insert into t (a) select count(*) from v":                    "1 null null",
		"insert into t (a) select a from none":                        "",
		"insert into d (a, b) select a, n from v, w.t":                "1 'x' null -4",
	}, added)
	expectCodes(t, map[string]api.Errno{
		"update t set a = 1":                                      api.ErrState,
		"update t set a = 1 / 0":                                  api.ErrState,
		"delete from t":                                           api.ErrState,
		"update t set z = 1":                                      api.ErrName,
		"insert into z values (1)":                                api.ErrName,
		"insert into v values (1)":                                api.ErrKind,
		"insert into t values (1)":                                api.ErrCount,
		"insert into t (a) values ('x')":                          api.ErrType,
		"insert into t (a, b) values (1 / 0, x)":                  api.ErrZero,
		"insert into t (a, b) values (1 / 0, to_text(to_int(x)))": api.ErrZero,
		"insert into t (b, a) values (to_text(to_int(x)), 1 / 0)": api.ErrRange,
		"insert into t (a) values ((select a from t))":            api.ErrMany,
		"insert into t (a) select 1 / (a - 3) from t":             api.ErrZero,
		"insert into t (a) select a from t as of 1":               api.ErrOld,
	}, added)
}

// TestDefaults: P9.4, defaults are resolved without binds and columns; of their errors the first one counts, behind those of the values, if there is a row.
func TestDefaults(t *testing.T) {
	x := standard(t)
	for text, want := range map[string]api.Errno{
		"a int, b int default 1 / 0":                       api.ErrZero,
		"a int, b int default to_int('x')":                 api.ErrRange,
		"a int, b int default a":                           api.ErrName,
		"a int, b int default d.a":                         api.ErrName,
		"a int, b int default (a + 'x')":                   api.ErrName,
		"a int, b int default ('x' + a)":                   api.ErrName,
		"a int, b int default ('x' + 1) + a":               api.ErrType,
		"a int, b int default one":                         api.ErrName,
		"a int, b int default :new.a":                      api.ErrName,
		"a int, b int default u.d.a":                       api.ErrName,
		"a int, b int default f(1)":                        api.ErrName,
		"a int, b int default abs(1, 2)":                   api.ErrCount,
		"a int, b int default abs('x')":                    api.ErrType,
		"a int, b int default (select max(a) from s)":      api.ErrKind,
		"a int, b bool default exists (select zzz from s)": api.ErrKind,
		"a int, b int default count(*)":                    api.ErrKind,
		"a int, b int default sum(1)":                      api.ErrKind,
		"a int, b int default sum(a)":                      api.ErrName,
		"a int, b int default sql%rowcount":                api.ErrKind,
		"a int, b int default 1 / 0, c int default a":      api.ErrZero,
		"a int, b int default a, c int default 1 / 0":      api.ErrName,
		"c int default 1, a int, b int default to_int('')": api.ErrRange,
		"a int default 1 / 0":                              api.OK,
		"a int default a, b int default 7":                 api.OK,
	} {
		y := x
		y.c = after(t, x.c, "u: create table d ("+text+");")
		if l, code := y.new(t, changeOf(t, "insert into d (a) values (1)")); code != want {
			t.Errorf("%s: %s, error %d, want %d", text, shown(l), code, want)
		}
		if l, code := y.new(t, changeOf(t, "insert into d (a) select a from s")); code != want || code == api.OK && len(l) != 3 {
			t.Errorf("%s: %s, error %d, want %d", text, shown(l), code, want)
		}
		if l, code := y.new(t, changeOf(t, "insert into d (a) select a from none")); code != api.OK || len(l) > 0 {
			t.Errorf("%s, no rows: %s, error %d", text, shown(l), code)
		}
		if l, code := y.new(t, changeOf(t, "insert into d (a) values (to_int(x))")); code != api.ErrRange {
			t.Errorf("%s, an error of a value: %s, error %d", text, shown(l), code)
		}
		if l, code := y.new(t, changeOf(t, "insert into d (a) select to_int(b) from t")); code != api.ErrRange {
			t.Errorf("%s, an error of the query: %s, error %d", text, shown(l), code)
		}
	}
	x.c = after(t, x.c, "w: create table d (a int, b text default 'k' || 'l', c int default case when null is null then 3 end);")
	if l, code := x.new(t, changeOf(t, "insert into w.d (a) select a from s where a < 3")); code != api.OK || shown(l) != "1 'kl' 3 | 2 'kl' 3" {
		t.Error(shown(l), code)
	}
}

// TestNext: P9.5, a row after an update.
func TestNext(t *testing.T) {
	x := standard(t)
	for _, one := range []struct {
		s    string
		id   int
		want string
	}{
		{"update t set a = 9", 1, "9 'x' true"},
		{"update t set b = b || 'z', a = a + 1", 1, "2 'xz' true"},
		{"update t set a = a * 10, c = a = 2", 3, "20 'y' true"},
		{"update t set c = a > 1, a = null", 3, "null 'y' true"},
		{"update t set c = true", 8, "3 null true"},
		{"update t set b = 'q'", 8, "3 'q' null"},
		{"update t set a = nvl(a, one)", 4, "1 'x' null"},
		{"update t set a = t.a + :new.a where a = 100", 9, "3 'x' false"},
		{"update t set a = 1 where 1 / 0 = 1", 9, "1 'x' false"},
		{"update t set a = (select max(d) from s where s.a = t.a)", 3, "20 'y' false"},
		{"update t set a = (select count(*) from t as of 5)", 3, "2 'y' false"},
		{"update w.t set k = k || k", 6, "'ww'"},
	} {
		if r, code := x.next(t, changeOf(t, one.s), one.id); code != api.OK || shown([]api.Row{r}) != one.want {
			t.Errorf("%s, row %d: %s, error %d, want %s", one.s, one.id, shown([]api.Row{r}), code, one.want)
		}
	}
	for _, one := range []struct {
		s    string
		id   int
		want api.Errno
	}{
		{"insert into t (a) values (1)", 1, api.ErrState},
		{"delete from t", 1, api.ErrState},
		{"delete from t", 2, api.ErrState},
		{"delete from z", 2, api.ErrName},
		{"update t set z = 1", 2, api.ErrName},
		{"update t set a = b", 2, api.ErrType},
		{"update t set a = 1", 2, api.ErrNone},
		{"update t set a = 1", 0, api.ErrNone},
		{"update t set a = 1", -1, api.ErrNone},
		{"update t set a = 1", 10, api.ErrNone},
		{"update none set a = 1", 1, api.ErrNone},
		{"update t set a = 1 / 0", 2, api.ErrNone},
		{"update t set a = 1 / 0", 1, api.ErrZero},
		{"update t set a = 1 / 0, b = to_text(to_int(b))", 1, api.ErrZero},
		{"update t set b = to_text(to_int(b)), a = 1 / 0", 1, api.ErrRange},
		{"update t set a = (select a from s)", 1, api.ErrMany},
		{"update t set a = (select a from s as of 1)", 1, api.ErrOld},
	} {
		if r, code := x.next(t, changeOf(t, one.s), one.id); code != one.want {
			t.Errorf("%s, row %d: %s, error %d, want %d", one.s, one.id, shown([]api.Row{r}), code, one.want)
		}
	}
}

// TestValue: P9.6, an expression with a row of a table.
func TestValue(t *testing.T) {
	x := standard(t)
	row := rowOf(4, "x", true)
	value := func(s string) (string, api.Errno) {
		v, code := x.value(t, "t", exprOf(t, s), row)
		return shown([]api.Row{{v}}), code
	}
	expectShown(t, map[string]string{
		"a": "4", "t.b || b": "'xx'", "c and a > one": "true", "a + :new.a": "6", "nil": "null", "17": "17",
		"case when a = 4 then b else 'q' end": "'x'", "a in (1, 4, 1 / 0)": "true", "not c and 1 / 0 = 1": "false", "abs(- a)": "4",
	}, value)
	expectCodes(t, map[string]api.Errno{
		"1 / (a - 4)": api.ErrZero, "to_int(b)": api.ErrRange, "z": api.ErrName, "s.a": api.ErrName, "a + b": api.ErrType, "abs()": api.ErrCount,
		"(select a from s)": api.ErrKind, "exists (select 1 from s)": api.ErrKind, "count(*)": api.ErrKind, "sum(a)": api.ErrKind, "sql%found": api.ErrKind,
	}, value)
	short := exprOf(t, "a is null and b is null and c is null")
	for _, one := range []struct {
		r    api.Row
		want string
	}{
		{nil, "true"}, {rowOf(nil), "true"}, {rowOf(1), "false"}, {rowOf(nil, nil, nil), "true"}, {rowOf(nil, nil, false), "false"},
	} {
		if v, code := x.value(t, "t", short, one.r); code != api.OK || shown([]api.Row{{v}}) != one.want {
			t.Errorf("%v: %v, error %d, want %s", one.r, v, code, one.want)
		}
	}
}

// TestValueArguments: ErrArg of Value, ahead of all faults.
func TestValueArguments(t *testing.T) {
	x := standard(t)
	for _, s := range []string{"a", "z", "1 / 0"} {
		e := exprOf(t, s)
		for _, r := range []api.Row{rowOf("x"), rowOf(true), rowOf(1, 2), rowOf(1, "x", 0), rowOf(1, "x", true, nil), {{Kind: api.VInt, N: api.MaxInt + 1}}, {{N: 1}}, {{Kind: 4}}, rowOf(nil, "\n")} {
			if v, code := x.value(t, "t", e, r); code != api.ErrArg {
				t.Errorf("%s with %v: %v, error %d", s, r, v, code)
			}
		}
		for _, table := range []string{"", "zzz", "v", "i", "T"} {
			if v, code := x.value(t, table, e, nil); code != api.ErrArg {
				t.Errorf("%s of %q: %v, error %d", s, table, v, code)
			}
		}
		for name, spoil := range spoils() {
			y := standard(t)
			spoil(&y)
			if v, code := y.value(t, "t", e, nil); code != api.ErrArg {
				t.Errorf("%s, %s: %v, error %d", name, s, v, code)
			}
		}
	}
	for _, e := range []api.Expr{{}, {Op: api.ECol}, {Op: api.EBind}, {Op: api.EName}, {Op: 99}, {Op: api.EConst, Val: api.Value{Kind: 7}}} {
		if v, code := x.value(t, "t", e, nil); code != api.ErrArg {
			t.Errorf("%v: %v, error %d", e, v, code)
		}
	}
}
