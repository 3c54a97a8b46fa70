package query_test

import (
	"strings"
	"testing"

	"justiciar/api"
)

// expectPaths expects the paths of trees, which stand in a string with blanks between.
func expectPaths[T any](t *testing.T, k kind[T], x T, want string) {
	t.Helper()
	l, code := k.paths(x)
	var all []string
	for _, p := range l {
		all = append(all, strings.Join(p, "."))
	}
	if got := strings.Join(all, " "); got != want || code != api.OK {
		t.Errorf("%s: %s, error %d, want %s", short(x), got, code, want)
	}
}

// P4.4: sources in the order in which they stand, whatever their names there are.
func TestPaths(t *testing.T) {
	for _, x := range querySamples() {
		expectPaths(t, queries(), x.tree, x.paths)
		expectPaths(t, queries(), queries().tree(t, x.text), x.paths)
	}
	for s, want := range map[string]string{
		"select t.a from b c, c b, b, c":       "b c",
		"select a from t, u.t, t.u, u, u.t, t": "t u.t t.u u",
		"select a from ab.c, a.bc, abc":        "ab.c a.bc abc",
		"select (select a from c) as d, exists (select a from b) from a as of (select d from e as of (select a from f)) where (select a from g) = (select a from h) group by (select a from i), f((select a from j)) having -(select a from k) is null order by (select a from l), case when a then (select a from m) else (select a from b) end": "c b a e f g h i j k l m",
		"select a from t where (select a from u) in ((select a from v), (select a from w)) and (select a from x) not between (select a from y) and (select a from z)":                                                                                                                                                                             "t u v w x y z",
		"select a from b where exists (select c from d where exists (select e from f where exists (select g from b, h)))":                                                                                                                                                                                                                         "b d f h",
		"select f(a), b.c, d%found from t": "t",
	} {
		expectPaths(t, queries(), queries().tree(t, s), want)
	}
}

// P4.4: the path of the change first, also where it is a source's, too.
func TestPathsOfChanges(t *testing.T) {
	for _, x := range changeSamples() {
		expectPaths(t, changes(), x.tree, x.paths)
		expectPaths(t, changes(), changes().tree(t, x.text), x.paths)
	}
	for s, want := range map[string]string{
		"insert into z.t (a, b) values ((select a from b), exists (select a from c, z.t), f((select a from a)))":                         "z.t b c a",
		"insert into t select (select a from v) from u, t where exists (select a from w)":                                                "t v u w",
		"update t set a = (select a from u), b = (select a from t), c = (select a from w) where (select a from v) = (select a from u.t)": "t u w v u.t",
		"delete from u.t where a in ((select a from t), (select a from u)) or exists (select a from u.t)":                                "u.t t u",
		"delete from t where b.c = d": "t",
	} {
		expectPaths(t, changes(), changes().tree(t, s), want)
	}
}

// P4.4: what is returned is the caller's.
func TestMemory(t *testing.T) {
	q, x := queries().tree(t, richText), changes().tree(t, "delete from u.t where exists ("+richText[:len(richText)-len(" for update")]+")")
	first, second := copied(q), copied(x)
	for range 2 {
		l, _ := queries().paths(q)
		more, _ := changes().paths(x)
		for _, p := range append(l, more...) {
			clear(p)
		}
	}
	if !queries().same(q, first) || !changes().same(x, second) {
		t.Error("the trees were changed")
	}
	clear(q.From[0].Path)
	clear(q.List)
	clear(x.Path)
	clear(x.Where)
	expectPaths(t, queries(), queries().tree(t, richText), richPaths)
	if !changes().same(changes().tree(t, "delete from u.t"), api.Change{Op: api.CDelete, Path: path("u.t")}) {
		t.Error("a later tree was changed")
	}
}
