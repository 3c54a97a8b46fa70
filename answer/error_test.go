package answer_test

import (
	"maps"
	"slices"
	"testing"

	"justiciar/api"
)

// spoils returns closures that make one of the arguments not valid, but for the images.
func spoils() map[string]func(x *call) {
	return map[string]func(x *call){
		"a catalog that is not valid": func(x *call) { x.c.Stamp = -1 },
		"objects that do not rise":    func(x *call) { slices.Reverse(x.c.Objects) },
		"no objects within":           func(x *call) { x.c.Objects = []api.Object{{Owner: "u", Name: "t", Kind: api.OTable}} },
		"nothing":                     func(x *call) { *x = call{} },
		"no user":                     func(x *call) { x.user = "zzz" },
		"an empty user":               func(x *call) { x.user = "" },
		"a bind of another kind":      func(x *call) { x.binds[0].Val = text("x") },
		"a bind without a path":       func(x *call) { x.binds[0].Path = nil },
		"a bind twice":                func(x *call) { x.binds = append(x.binds, x.binds[0]) },
	}
}

// spoilsOfImages returns closures that make the images not valid.
func spoilsOfImages() map[string]func(x *call) {
	return map[string]func(x *call){
		"no images":                      func(x *call) { x.l = nil },
		"an image that is not valid":     func(x *call) { x.l[2].Tables[1].Rows[0].Row = rowOf("x") },
		"an old image that is not valid": func(x *call) { x.l[0].Tables[0].Next = 0 },
		"images that do not rise":        func(x *call) { slices.Reverse(x.l) },
		"a time twice":                   func(x *call) { x.l[1].Time = x.l[0].Time },
		"too many images":                func(x *call) { x.l = many(21) },
	}
}

func many(n int) []api.Image {
	var l []api.Image
	for i := range n {
		l = append(l, api.Image{Time: i})
	}
	return l
}

// codes returns the errors of all functions but Value for a query and changes.
func (x call) codes(t *testing.T, q, lock api.Query, insert, update api.Change) []api.Errno {
	t.Helper()
	_, rows := x.rows(t, q, nil)
	_, spots := x.spots(t, lock)
	_, find := x.find(t, update)
	_, new := x.new(t, insert)
	_, next := x.next(t, update, 1)
	return []api.Errno{rows, spots, find, new, next}
}

// TestArguments: ErrArg of all functions, ahead of all other errors.
func TestArguments(t *testing.T) {
	right := []api.Errno{api.OK, api.OK, api.OK, api.OK, api.OK}
	wrong := []api.Errno{api.ErrArg, api.ErrArg, api.ErrArg, api.ErrArg, api.ErrArg}
	q, lock := queryOf(t, "select a from t"), queryOf(t, "select a from t for update")
	insert, update := changeOf(t, "insert into t (a) values (1)"), changeOf(t, "update t set a = 2")
	if got := standard(t).codes(t, q, lock, insert, update); !slices.Equal(got, right) {
		t.Errorf("right arguments: %v", got)
	}
	all := spoils()
	maps.Copy(all, spoilsOfImages())
	for name, spoil := range all {
		x := standard(t)
		spoil(&x)
		if got := x.codes(t, q, lock, insert, update); !slices.Equal(got, wrong) {
			t.Errorf("%s: %v", name, got)
		}
		// not valid ahead of a fault, of ErrState and of ErrNone
		if got := x.codes(t, queryOf(t, "select z from t"), q, update, insert); !slices.Equal(got, wrong) {
			t.Errorf("%s, and more: %v", name, got)
		}
		if _, code := x.next(t, update, 77); code != api.ErrArg {
			t.Errorf("%s, and no row: %v", name, code)
		}
	}
	x := standard(t)
	if got := x.codes(t, api.Query{}, api.Query{Lock: true}, api.Change{}, api.Change{Op: api.CUpdate}); !slices.Equal(got, wrong) {
		t.Errorf("nothing: %v", got)
	}
	spoilt := queryOf(t, "select a from t where 1 = 1")
	spoilt.Where = append(spoilt.Where, spoilt.Where[0])
	column := queryOf(t, "select a from t")
	column.List[0].Expr = api.Expr{Op: api.ECol}
	for _, q := range []api.Query{spoilt, column} {
		locked := q
		locked.Lock = true
		if got := x.codes(t, q, locked, api.Change{Op: 9}, api.Change{Op: api.CDelete, Path: []string{"t"}, Cols: []string{"a"}}); !slices.Equal(got, wrong) {
			t.Errorf("not valid: %v", got)
		}
	}
	x.l = many(20)
	if _, code := x.rows(t, q, nil); code != api.OK {
		t.Errorf("20 images: error %d", code)
	}
}

// TestFaults: the code of resolve's fault, behind ErrArg and ahead of all else.
func TestFaults(t *testing.T) {
	x := standard(t)
	for s, want := range map[string]api.Errno{
		"select z from t": api.ErrName, "select 1 from i": api.ErrKind, "select a from t, t": api.ErrTwice, "select a + b from t": api.ErrType, "select abs() from t": api.ErrCount,
		"select a, count(*) from t": api.ErrGroup, "select 1 from t a, t b, t c, t d, t e": api.ErrLimit, "select sql%found from t": api.ErrKind, "select 1 / 0, z from t": api.ErrName,
		"select 1 from t as of 9, t as of z q": api.ErrName, "select (select z from t) from none": api.ErrName,
	} {
		if _, code := x.rows(t, queryOf(t, s), nil); code != want {
			t.Errorf("%s: error %d, want %d", s, code, want)
		}
		if _, code := x.rows(t, queryOf(t, s), []api.Way{{Cols: 3}}); code != want {
			t.Errorf("%s, and no ways: error %d, want %d", s, code, want)
		}
		if _, code := x.spots(t, queryOf(t, s)); code != want {
			t.Errorf("Spots of %s: error %d, want %d", s, code, want)
		}
	}
	for s, want := range map[string]api.Errno{
		"insert into t (z) values (1)": api.ErrName, "insert into t (a) values (b)": api.ErrName, "update t set a = 1, a = 2": api.ErrTwice, "delete from t where a": api.ErrType, "update v set a = 1": api.ErrKind, "insert into t values (1)": api.ErrCount, "update t set a = sum(a)": api.ErrGroup,
	} {
		h := changeOf(t, s)
		_, find := x.find(t, h)
		_, new := x.new(t, h)
		_, next := x.next(t, h, 77)
		if got := []api.Errno{find, new, next}; !slices.Equal(got, []api.Errno{want, want, want}) {
			t.Errorf("%s: errors %v, want %d", s, got, want)
		}
	}
	x.c = after(t, x.c, "u: drop table s;")
	x.l = x.l[:1]
	x.expectErrors(t, api.ErrBad, "select 1 from wide", "select 1 from none where exists (select 1 from wide)")
}
