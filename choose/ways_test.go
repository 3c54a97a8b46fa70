package choose_test

import (
	"cmp"
	"slices"
	"strings"
	"testing"

	"justiciar/api"
	"justiciar/catalog"
	"justiciar/choose"
)

// TestWays: P8.2 and P8.3, which ways there are, in which order, and what each costs.
func TestWays(t *testing.T) {
	for _, x := range []struct {
		s      string
		source int
		want   string
	}{
		{"select * from t", 0, "all: 7"},
		{"select * from t where a = 1", 0, "all: 7, u.k/1: 5, u.m/1: 5"},
		{"select * from t where 1 = a", 0, "all: 7, u.k/1: 5, u.m/1: 5"},
		{"select * from t where a = one", 0, "all: 7, u.k/1: 5, u.m/1: 5"},
		{"select * from t where :new.a = a", 0, "all: 7, u.k/1: 6, u.m/1: 6"},
		{"select * from t where a = 3", 0, "all: 7, u.k/1: 3, u.m/1: 3"},
		{"select * from t where a = null", 0, "all: 7, u.k/1: 3, u.m/1: 3"},
		{"select * from t where none = a", 0, "all: 7, u.k/1: 3, u.m/1: 3"},
		{"select * from t where b = 'x'", 0, "all: 7, w.d/1: 7"},
		{"select * from t where b = x", 0, "all: 7, w.d/1: 7"},
		{"select * from t where c = true", 0, "all: 7, u.q/1: 6"},
		{"select * from t where c = false", 0, "all: 7, u.q/1: 4"},
		{"select * from t where d = 5", 0, "all: 7"},
		{"select * from t where d = 5 and b = 'x' and c = true and a = 1", 0, "all: 7, u.k/1: 5, u.m/1: 5, u.m/2: 4, u.q/1: 6, u.q/2: 5, u.q/3: 5, u.q/4: 4, w.d/1: 7"},
		{"select * from t where c = true and a = 1 and b = 'x'", 0, "all: 7, u.k/1: 5, u.m/1: 5, u.m/2: 4, u.q/1: 6, w.d/1: 7"},
		{"select * from t where c = true and d = 6 and b = 'x'", 0, "all: 7, u.q/1: 6, u.q/2: 3, w.d/1: 7"},
		{"select * from t where a = 1 and a = 2", 0, "all: 7, u.k/1: 5, u.m/1: 5"},
		{"select * from t where a = 2 and (a = 1 and b = 'x')", 0, "all: 7, u.k/1: 6, u.m/1: 6, u.m/2: 5, w.d/1: 7"},
		{"select * from t where (b = 'y' and (a = null and a = 1)) and b = 'x'", 0, "all: 7, u.k/1: 3, u.m/1: 3, u.m/2: 3, w.d/1: 4"},
		{"select * from t where a = 1 or b = 'x'", 0, "all: 7"},
		{"select * from t where not (a <> 1) and b like 'x' and c and a in (1) and a is null", 0, "all: 7"},
		{"select * from t where a = a and a = d and a + 0 = 1 and a = - 1 and a = (1 + 0) and 1 = 1", 0, "all: 7"},
		{"select * from t where exists (select 1 from w.t z where t.a = 1 and z.a = 1)", 0, "all: 7"},
		{"select a from t where b = 'x' group by a having a = 1 order by a", 0, "all: 7, w.d/1: 7"},
		{"select * from u.empty where a = 1", 0, "all: 0, u.e/1: 3"},
		{"select * from w.t where a = 1", 0, "all: 2"},
		{"select * from w.t where a = 1 and b = 'x'", 0, "all: 2, u.far/1: 4, u.far/2: 4"},
		{"select * from v where a = 1", 0, "all: 0"},
		{"select * from t as of 1 where a = 1", 0, "all: 7"},
		{"select * from t as of one z where z.a = 1", 0, "all: 7"},
		{"select * from t x, t y where x.a = 1", 0, "all: 7, u.k/1: 5, u.m/1: 5"},
		{"select * from t x, t y where x.a = 1", 1, "all: 7"},
		{"select * from t x, w.t y where y.a = 1 and x.b = 'x' and y.b = 'x' and x.a = y.a", 0, "all: 7, w.d/1: 7"},
		{"select * from t x, w.t y where y.a = 1 and x.b = 'x' and y.b = 'x' and x.a = y.a", 1, "all: 2, u.far/1: 4, u.far/2: 4"},
		{"select * from v, t as of 1 o, empty, t where empty.a = 1 and t.c = true and v.a = 1 and o.a = 1", 3, "all: 7, u.q/1: 6"},
		{"select * from v, t as of 1 o, empty, t where empty.a = 1 and t.c = true and v.a = 1 and o.a = 1", 2, "all: 0, u.e/1: 3"},
		{"select * from t where a = 1 for update", 0, "all: 7, u.k/1: 5, u.m/1: 5"},
	} {
		if got := standard(t).costs(t, x.s, x.source); got != x.want {
			t.Errorf("%s, source %d: %s, want %s", x.s, x.source, got, x.want)
		}
	}
}

// TestBest: P8.2, the least cost, and which way of several it is.
func TestBest(t *testing.T) {
	for _, x := range []struct{ s, want string }{
		{"select * from t", "all"},
		{"select * from t where a = 1", "u.k/1"},
		{"select * from t where a = 1 and b = 'x'", "u.m/2"},
		{"select * from t where a = 3 and b = 'x'", "u.m/2"},
		{"select * from t where b = 'x'", "all"},
		{"select * from t where b = 'y'", "w.d/1"},
		{"select * from t where b = 'y' and a = 3", "u.m/2"},
		{"select * from t where b = 'y' and a = 3 and c = null", "u.m/2"},
		{"select * from t where b = 'y' and a = 3 and c = null and d = 5", "u.q/4"},
		{"select * from t where b = 'x' and a = 1 and c = true and d = 5", "u.q/4"},
		{"select * from t where b = 'y' and c = true and d = 9", "u.q/2"},
		{"select * from empty where a = 1", "all"},
		{"select * from w.t where a = 1 and b = 'x'", "all"},
		{"select * from v where a = 1", "all"},
		{"select * from t as of 1 where a = 1", "all"},
		{"select * from t x, v, t y, w.t z where x.a = 1 and y.b = 'y' and v.a = 1 and z.b = 'x'", "u.k/1 all w.d/1 all"},
	} {
		l, code := standard(t).best(t, queryOf(t, x.s))
		if got := shownAll(l); code != api.OK || got != x.want {
			t.Errorf("%s: %s, error %d, want %s", x.s, got, code, x.want)
		}
	}
}

// TestBestOfEqual: an index that costs as much as all rows is not the best way; of indexes the first owner counts ahead of the first name.
func TestBestOfEqual(t *testing.T) {
	x := standard(t)
	x.m.Tables[0].Rows = x.m.Tables[0].Rows[:5]
	for s, want := range map[string]string{"select * from t where a = 1": "all", "select * from t where a = 9": "u.k/1", "select * from t where a = 1 and b = 'y'": "u.m/2"} {
		if l, code := x.best(t, queryOf(t, s)); code != api.OK || shownAll(l) != want {
			t.Errorf("%s: %s, error %d", s, shownAll(l), code)
		}
	}
	x.c = after(t, x.c, "w: create index a on u.t (a);", "w: create index z on u.t (d);", "u: create index z on t (d);")
	for s, want := range map[string]string{"select * from t where a = 9": "u.k/1", "select * from t where d = 9": "u.z/1", "select * from t where d = 9 and b = 'y'": "u.z/1"} {
		if l, code := x.best(t, queryOf(t, s)); code != api.OK || shownAll(l) != want {
			t.Errorf("%s: %s, error %d", s, shownAll(l), code)
		}
	}
	x.m.Tables = x.m.Tables[1:]
	if l, code := x.best(t, queryOf(t, "select * from t where a = 9")); code != api.OK || shownAll(l) != "all" {
		t.Errorf("a table that is not there: %s, error %d", shownAll(l), code)
	}
}

// TestExample: the chapter's example.
func TestExample(t *testing.T) {
	c := after(t, users(t, "u"), "u: create table t (a int);", "u: create index i on t (a);")
	m := api.Image{Tables: []api.Stored{{Owner: "u", Name: "t", Next: 101}}}
	for n := range 100 {
		m.Tables[0].Rows = append(m.Tables[0].Rows, api.Held{Id: n + 1, Row: api.Row{number(n / 4)}})
	}
	x := call{c, "u", nil, m}
	q := queryOf(t, "select * from t where a = 1")
	if l, code := x.best(t, q); code != api.OK || shownAll(l) != "u.i/1" {
		t.Error(l, code)
	}
	if got := x.costs(t, "select * from t where a = 1", 0); got != "all: 100, u.i/1: 7" {
		t.Error(got)
	}
}

// TestIndexOfNothing: a valid catalog may have indexes of columns, and of tables, that are not there.
func TestIndexOfNothing(t *testing.T) {
	x := standard(t)
	for i := range x.c.Objects {
		if o := &x.c.Objects[i]; o.Owner == "u" && o.Name == "m" {
			o.Index = []api.Index{{On: []string{"u", "t"}, Cols: []string{"a", "zzz", "b"}}}
		} else if o.Kind == api.OIndex && o.Owner == "w" {
			o.Index = []api.Index{{On: []string{"u", "v"}, Cols: []string{"b"}}}
		} else if o.Kind == api.OIndex && o.Name == "k" {
			o.Index = []api.Index{{On: []string{"w", "zzz"}, Cols: []string{"a"}}}
		}
	}
	if !catalog.Valid(x.c) {
		t.Fatal("the catalog is not valid")
	}
	for s, want := range map[string]string{"select * from t where a = 1 and b = 'x'": "all: 7, u.m/1: 5", "select * from v where a = 1 and b = 'x'": "all: 0"} {
		if got := x.costs(t, s, 0); got != want {
			t.Errorf("%s: %s", s, got)
		}
	}
}

// TestCostOfNone: P8.3, the errors ErrRange and ErrNone.
func TestCostOfNone(t *testing.T) {
	x := standard(t)
	q := queryOf(t, "select * from t, w.t z where t.a = 1 and z.b = 'x'")
	for _, one := range []struct {
		source int
		w      api.Way
		code   api.Errno
	}{
		{0, api.Way{}, api.OK}, {1, api.Way{}, api.OK}, {0, api.Way{Owner: "u", Name: "m", Cols: 1}, api.OK}, {1, api.Way{Owner: "u", Name: "far", Cols: 1}, api.OK},
		{-1, api.Way{}, api.ErrRange}, {2, api.Way{}, api.ErrRange}, {1 << 62, api.Way{}, api.ErrRange}, {-1 << 63, api.Way{Owner: "u"}, api.ErrRange},
		{0, api.Way{Cols: 1}, api.ErrNone}, {0, api.Way{Cols: -1}, api.ErrNone}, {0, api.Way{Owner: "u"}, api.ErrNone}, {0, api.Way{Name: "m"}, api.ErrNone},
		{0, api.Way{Owner: "u", Name: "m"}, api.ErrNone}, {0, api.Way{Owner: "u", Name: "m", Cols: 2}, api.ErrNone}, {0, api.Way{Owner: "u", Name: "m", Cols: -1}, api.ErrNone},
		{0, api.Way{Owner: "w", Name: "m", Cols: 1}, api.ErrNone}, {0, api.Way{Owner: "u", Name: "far", Cols: 1}, api.ErrNone}, {1, api.Way{Owner: "u", Name: "m", Cols: 1}, api.ErrNone},
		{0, api.Way{Owner: "u", Name: "t", Cols: 1}, api.ErrNone}, {0, api.Way{Owner: "u", Name: "q", Cols: 1}, api.ErrNone}, {0, api.Way{Owner: "u", Name: "zzz", Cols: 1}, api.ErrNone},
		{0, api.Way{Owner: "u", Name: "m", Cols: 1 << 62}, api.ErrNone},
	} {
		if _, code := x.cost(t, q, one.source, one.w); code != one.code {
			t.Errorf("source %d, %v: error %d, want %d", one.source, one.w, code, one.code)
		}
		_, code := x.ways(t, q, one.source)
		if (code == api.ErrRange) != (one.code == api.ErrRange) || code != api.OK && code != api.ErrRange {
			t.Errorf("source %d: error %d", one.source, code)
		}
	}
}

// TestAre: P8.4.
func TestAre(t *testing.T) {
	x := standard(t)
	q := queryOf(t, "select * from t, w.t z where t.a = 1 and z.b = 'x' and t.b = 'x'")
	all, m1, m2, far := api.Way{}, api.Way{Owner: "u", Name: "m", Cols: 1}, api.Way{Owner: "u", Name: "m", Cols: 2}, api.Way{Owner: "u", Name: "far", Cols: 1}
	for _, one := range []struct {
		l    []api.Way
		want bool
	}{
		{[]api.Way{all, all}, true}, {[]api.Way{m1, all}, true}, {[]api.Way{m2, far}, true}, {[]api.Way{all, far}, true}, {[]api.Way{{Owner: "w", Name: "d", Cols: 1}, far}, true},
		{nil, false}, {[]api.Way{all}, false}, {[]api.Way{m1}, false}, {[]api.Way{all, all, all}, false}, {[]api.Way{far, m1}, false}, {[]api.Way{m1, m1}, false},
		{[]api.Way{{Owner: "u", Name: "m", Cols: 3}, all}, false}, {[]api.Way{{Owner: "u", Name: "m"}, all}, false}, {[]api.Way{{Owner: "u", Name: "far", Cols: 2}, all}, false},
		{[]api.Way{all, {Cols: 1}}, false}, {[]api.Way{all, {Owner: "w", Name: "far", Cols: 1}}, false}, {[]api.Way{{Owner: "u", Name: "q", Cols: 1}, all}, false},
		{make([]api.Way, 1000), false},
	} {
		if ok, code := x.are(t, q, one.l); ok != one.want || code != api.OK {
			t.Errorf("%v: %v, error %d", one.l, ok, code)
		}
	}
	x.c = after(t, x.c, "u: drop index m;")
	if ok, code := x.are(t, q, []api.Way{m1, far}); ok || code != api.OK {
		t.Errorf("after its index was dropped: %v, error %d", ok, code)
	}
}

// TestErrors: which error all functions return, of arguments and of what is not right in a query.
func TestErrors(t *testing.T) {
	right := standard(t)
	spoilt := right
	spoilt.c.Stamp = -1
	hollow := right
	hollow.c.Objects = slices.Clone(hollow.c.Objects)
	for i := range hollow.c.Objects {
		hollow.c.Objects[i].Table, hollow.c.Objects[i].Index, hollow.c.Objects[i].View = nil, nil, nil
	}
	noUser := right
	noUser.user = "x"
	noBinds := right
	noBinds.binds = append(variables(), variables()...)
	noImage := right
	noImage.m.Time = -1
	q, none := queryOf(t, "select * from t where a = 1"), queryOf(t, "select * from zzz")
	fault := queryOf(t, "select * from t where a = zzz")
	kind := queryOf(t, "select * from seq")
	wrong := queryOf(t, "select * from t where a = 'x'")
	many := queryOf(t, "select 1 from t a, t b, t c, t d, t e")
	for name, one := range map[string]struct {
		x     call
		q     api.Query
		plain api.Errno // of Ways and Are
		at    api.Errno // of Best and Cost
	}{
		"right":                         {right, q, api.OK, api.OK},
		"a catalog that is not valid":   {spoilt, q, api.ErrArg, api.ErrArg},
		"objects with nothing in them":  {hollow, q, api.ErrArg, api.ErrArg},
		"no catalog":                    {call{user: "u"}, q, api.ErrArg, api.ErrArg},
		"no user":                       {noUser, q, api.ErrArg, api.ErrArg},
		"binds twice":                   {noBinds, q, api.ErrArg, api.ErrArg},
		"no query":                      {right, api.Query{}, api.ErrArg, api.ErrArg},
		"no image":                      {noImage, q, api.OK, api.ErrArg},
		"no table":                      {right, none, api.ErrName, api.ErrName},
		"no table, and no image":        {noImage, none, api.ErrName, api.ErrArg},
		"no table, and no user":         {noUser, none, api.ErrArg, api.ErrArg},
		"no column":                     {right, fault, api.ErrName, api.ErrName},
		"no column, and no image":       {noImage, fault, api.ErrName, api.ErrArg},
		"a sequence":                    {right, kind, api.ErrKind, api.ErrKind},
		"another kind":                  {right, wrong, api.ErrType, api.ErrType},
		"too many sources":              {right, many, api.ErrLimit, api.ErrLimit},
		"too many sources and no image": {noImage, many, api.ErrLimit, api.ErrArg},
	} {
		_, ways := one.x.ways(t, one.q, 0)
		_, are := one.x.are(t, one.q, nil)
		_, best := one.x.best(t, one.q)
		_, cost := one.x.cost(t, one.q, 0, api.Way{})
		if got := []api.Errno{ways, are, best, cost}; !slices.Equal(got, []api.Errno{one.plain, one.plain, one.at, one.at}) {
			t.Errorf("%s: errors %v", name, got)
		}
		_, ways = one.x.ways(t, one.q, 9)
		_, cost = one.x.cost(t, one.q, -9, api.Way{Owner: "zzz"})
		if ways != cmp.Or(one.plain, api.ErrRange) || cost != cmp.Or(one.at, api.ErrRange) {
			t.Errorf("%s, of no source: errors %d %d", name, ways, cost)
		}
	}
}

// TestUsers: a path of one name means the user's own table.
func TestUsers(t *testing.T) {
	x := standard(t)
	x.user = "w"
	if got := x.costs(t, "select * from t where b = 'x'", 0); got != "all: 2, u.far/1: 4" {
		t.Error(got)
	}
	if got := x.costs(t, "select * from u.t where a = 1", 0); got != "all: 7, u.k/1: 5, u.m/1: 5" {
		t.Error(got)
	}
}

// TestLarge: the largest arguments, and beyond these, are looked at in a short time.
func TestLarge(t *testing.T) {
	cols := strings.Split("a b c d e f g h i j k l m n o p q r s x", " ")
	c := after(t, users(t, "u"), "u: create table t ("+strings.Join(cols, " int, ")+" int);")
	for i := 1; i < api.MaxObjects; i++ {
		name := "i" + string(rune('a'+i/26)) + string(rune('a'+i%26))
		c = after(t, c, "u: create index "+name+" on t ("+strings.Join(cols[i%12:i%12+8], ", ")+");")
	}
	m := api.Image{Tables: []api.Stored{{Owner: "u", Name: "t", Next: api.MaxInt}}}
	var r api.Row
	for range cols {
		r = append(r, number(1))
	}
	for n := range api.MaxRows {
		m.Tables[0].Rows = append(m.Tables[0].Rows, api.Held{Id: n + 1, Row: r})
	}
	x := call{c, "u", nil, m}
	s := "select t.a from t, t t2, t t3, t t4 where true"
	for _, col := range cols {
		s += " and t." + col + " = 1"
	}
	q := queryOf(t, s)
	if l, code := x.best(t, q); code != api.OK || shownAll(l) != "all all all all" {
		t.Error(l, code)
	}
	if l, code := x.ways(t, q, 0); code != api.OK || len(l) != 1+8*(api.MaxObjects-1) {
		t.Error(len(l), code)
	}
	m.Tables[0].Rows = slices.Repeat(m.Tables[0].Rows, 1000)
	if choose.IsImage(c, m) || choose.IsImage(c, api.Image{Tables: make([]api.Stored, 1<<20)}) {
		t.Error("an image beyond the limits")
	}
}
