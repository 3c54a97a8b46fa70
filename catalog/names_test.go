package catalog_test

import (
	"cmp"
	"reflect"
	"slices"
	"strings"
	"testing"

	"justiciar/api"
	"justiciar/catalog"
)

// TestFind: P6.2.
func TestFind(t *testing.T) {
	c := world(t)
	old := copied(c)
	for _, want := range old.Objects {
		o, code := catalog.Find(c, want.Owner, want.Name)
		if code != api.OK || !equal(o, want) {
			t.Errorf("Find of %s.%s: %v, error %d", want.Owner, want.Name, o, code)
		}
		if scribble(&o); !equal(c, old) {
			t.Fatalf("Find of %s.%s shares memory", want.Owner, want.Name)
		}
	}
	for _, key := range [][2]string{{"ann", "d"}, {"bob", "t"}, {"", "t"}, {"ann", ""}, {"dan", "t"}, {"t", "ann"}, {"ann.t", ""}, {"\xff", "all"}} {
		if o, code := catalog.Find(c, key[0], key[1]); code != api.ErrNone || !reflect.DeepEqual(o, api.Object{}) {
			t.Errorf("Find of %q: %v, error %d", key, o, code)
		}
		for i, do := range []func(api.Catalog, string, string) ([][2]string, api.Errno){catalog.Names, catalog.Hangs, catalog.On} {
			if l, code := do(c, key[0], key[1]); code != api.ErrNone || len(l) > 0 {
				t.Errorf("function %d of %q: %v, error %d", i, key, l, code)
			}
		}
		if n, code := catalog.Mark(c, key[0], key[1], true); code != api.ErrNone || !reflect.DeepEqual(n, api.Catalog{}) {
			t.Errorf("Mark of %q: %v, error %d", key, n, code)
		}
	}
}

// TestMean: P6.2.
func TestMean(t *testing.T) {
	c := after(t, world(t), "ann: create table ann (a int);", "bob: create table bob.ann (a int);", "cy: create sequence t start 1 by 1 cache 1;")
	old := copied(c)
	for _, x := range []struct{ schema, path, want string }{
		{"ann", "t", "ann.t"}, {"cy", "t", "cy.t"}, {"bob", "t", ""}, {"bob", "ann.t", "ann.t"}, {"nobody", "ann.t", "ann.t"}, {"", "cy.t", "cy.t"},
		{"ann", "ann", "ann.ann"}, {"bob", "ann", "bob.ann"}, {"cy", "ann", ""}, {"cy", "ann.ann", "ann.ann"}, {"cy", "bob.ann", "bob.ann"},
		{"ann", "ann.t.a", ""}, {"ann", "t.a", ""}, {"ann", "", ""}, {"nobody", "t", ""}, {"ann", "t.", ""}, {"ann", ".t", ""},
	} {
		path := strings.Split(x.path, ".")
		o, code := catalog.Mean(c, x.schema, path)
		want, none := api.Object{}, api.ErrNone
		if x.want != "" {
			want, none = *at(t, &c, x.want), api.OK
		}
		if code != none || !equal(o, want) {
			t.Errorf("Mean of %s for %s: %v, error %d, want %s", x.path, x.schema, o, code, x.want)
		}
		if scribble(&o); !equal(c, old) || strings.Join(path, ".") != x.path {
			t.Fatalf("Mean of %s for %s changes an argument", x.path, x.schema)
		}
	}
	if o, code := catalog.Mean(c, "ann", nil); code != api.ErrNone || !reflect.DeepEqual(o, api.Object{}) {
		t.Errorf("Mean of no path: %v, error %d", o, code)
	}
}

// TestNames: P6.3, of the world.
func TestNames(t *testing.T) {
	c := world(t)
	for _, x := range []struct{ key, names, hangs, on string }{
		{"ann.t", "", "", "ann.child ann.f ann.g ann.i ann.k ann.p ann.v bob.w"},
		{"ann.child", "ann.t", "ann.t", "ann.f ann.g ann.k ann.p"},
		{"ann.i", "ann.t", "ann.t", ""},
		{"ann.s", "", "", ""},
		{"ann.v", "ann.t", "ann.t", "ann.f ann.g ann.k ann.p bob.w"},
		{"ann.p", "ann.child ann.v", "ann.child ann.t ann.v", "ann.f ann.g ann.k"},
		{"ann.f", "ann.p", "ann.child ann.p ann.t ann.v", "ann.g ann.k"},
		{"ann.k", "ann.f", "ann.child ann.f ann.p ann.t ann.v", "ann.g"},
		{"ann.g", "ann.k ann.t", "ann.child ann.f ann.k ann.p ann.t ann.v", ""},
		{"bob.w", "ann.v", "ann.t ann.v", ""},
		{"bob.d", "", "", ""},
	} {
		expectKeys(t, "Names", catalog.Names, c, x.key, x.names)
		expectKeys(t, "Hangs", catalog.Hangs, c, x.key, x.hangs)
		expectKeys(t, "On", catalog.On, c, x.key, x.on)
	}
}

// TestNamed: P6.3. Of an object with a part, whose schema is ann's, which objects it names, where there are objects with all names that are in it.
func TestNamed(t *testing.T) {
	c := after(t, users(t, "ann", "b", "c"), "ann: create table t (a int, constraint pk primary key (a));")
	for _, key := range strings.Fields("ann.a ann.b ann.c b.a b.c c.a c.b ann.ann ann.others") {
		c = after(t, c, "ann: create sequence "+key+" start 1 by 1 cache 1;")
	}
	for _, x := range []struct{ what, want string }{
		{"view o as select x from a", "ann.a"},
		{"view o as select x from b.a", "b.a"},
		{"view o as select x from b.b, c y", "ann.c"},
		{"view o as select x from x a, x as of b.a", "ann.b b.a"},
		{"view o as select a from x", "ann.a"},
		{"view o as select b from x", "ann.b"},
		{"view o as select b.a from x", "ann.b b.a"},
		{"view o as select b.a.c from x", "ann.b b.a"},
		{"view o as select x.a from x", ""},
		{"view o as select x as a from x b", ""},
		{"view o as select b.c(1) from x", "ann.b b.c"},
		{"view o as select a(1) from x", "ann.a"},
		{"view o as select b.a.c(c) from x", "ann.b ann.c b.a"},
		{"view o as select x from x where x in ((select x from b.c where exists (select b from a)), 1)", "ann.a ann.b b.c"},
		{"view o as select x from x group by a having b.x order by c desc", "ann.a ann.b ann.c"},
		{"view o as select case when a then x else x.a(b) end from x", "ann.a ann.b"},
		{"view ann.o as select ann from ann", "ann.ann"},
		{"view ann.o as select ann.b from ann.x", "ann.ann ann.b"},
		{"table o (a int, b int, c int default b, constraint a check (c.a > 0), constraint k unique (a))", "ann.b ann.c c.a"},
		{"table o (a int, constraint f foreign key (a) references ann.t)", "ann.t"},
		{"table o (a int, constraint p primary key (a), constraint f foreign key (a) references o)", ""},
		{"table o (a int, b int default o + ann.o.b, constraint p primary key (a), constraint f foreign key (a) references ann.o, constraint g foreign key (b) references t)", "ann.ann ann.t"},
		{"view o as select o.x, ann.o.y from o, ann.o, t", "ann.ann ann.t"},
		{"index o on t (a)", "ann.t"},
		{"sequence a1 start 1 by 1 cache 1", ""},
		{"procedure o is begin o; end", ""},
		{"procedure o is begin o; ann.o; insert into t values (1, 2); end", "ann.ann ann.t"},
		{"package o is x int := ann.o.q; cursor k is select x from t; procedure q is begin o.q; end; end", "ann.ann ann.t"},
		{"trigger o after insert on t begin insert into o values (ann.o); end", "ann.ann ann.t"},
		{"procedure o is begin a; end", "ann.a"},
		{"procedure o is begin b.a; end", "ann.b b.a"},
		{"procedure o is begin b.a.c(c.a); end", "ann.b ann.c b.a c.a"},
		{"procedure o is begin x.a; end", ""},
		{"procedure o is a int; begin a := b; end", "ann.a ann.b"},
		{"procedure o is begin b.a := 1; c.a(b) := 1; end", "ann.b ann.c b.a c.a"},
		{"procedure o is a int; b text := c; cursor c is select x from b.a; begin end", "ann.c b.a"},
		{"procedure o is begin open a; fetch a into b; close a; for x in c loop null; end loop; raise a; savepoint b; rollback to b; exception when others then null; end", "ann.b"},
		{"procedure o is begin fetch x bulk collect into a limit b; end", "ann.a ann.b"},
		{"procedure o is begin select x into a from b; end", "ann.a ann.b"},
		{"procedure o is begin x := a%found or sql%found; end", ""},
		{"procedure o is begin null; exception when a then b; end", "ann.b"},
		{"procedure o is begin if a then b; elsif c then null; else b.a; end if; end", "ann.a ann.b ann.c b.a"},
		{"procedure o is begin loop exit when a; end loop; while b loop c; end loop; end", "ann.a ann.b ann.c"},
		{"procedure o is begin for a in b .. c loop null; end loop; end", "ann.b ann.c"},
		{"procedure o is begin for a in (select b from c.b) loop null; end loop; end", "ann.b c.b"},
		{"procedure o is begin forall a in b .. x insert into c.a values (x); end", "ann.b c.a"},
		{"procedure o is begin declare x int := a; begin b; exception when others then c; end; end", "ann.a ann.b ann.c"},
		{"procedure o is begin insert into a (b) select c from x; update b.a set c = x where b.c; delete from c.a where a; end", "ann.a ann.b ann.c b.a b.c c.a"},
		{"function o (a int) return int is begin return b; end", "ann.b"},
		{"package o is a int := b; private procedure c is begin c.a; end; function a return int is begin return a; end; end", "ann.a ann.b ann.c c.a"},
		{"trigger o after update of a, b on t begin c; end", "ann.c ann.t"},
		{"trigger o before insert on ann.t for each row when (:new.a > b.a) begin :new.b := :old.c; end", "ann.b ann.t b.a"},
	} {
		n := after(t, c, "ann: create "+x.what+";")
		for _, o := range n.Objects {
			if o.Stamp == n.Stamp {
				expectKeys(t, x.what+": Names", catalog.Names, n, o.Owner+"."+o.Name, x.want)
				expectKeys(t, x.what+": Hangs", catalog.Hangs, n, o.Owner+"."+o.Name, x.want) // t names nothing
				expectNamed(t, n)
			}
		}
	}
}

// namedBy finds which other objects an object names in all fields with paths, wherever they are.
func namedBy(c api.Catalog, o api.Object) [][2]string {
	meant := map[[2]string]bool{}
	path := func(l []string) {
		switch len(l) {
		case 1:
			meant[[2]string{o.Owner, l[0]}] = true
		case 2:
			meant[[2]string{l[0], l[1]}] = true
		}
	}
	starts := func(l []string) {
		path(l[:1])
		if len(l) > 1 {
			path(l[:2])
		}
	}
	visit(reflect.ValueOf(o), "", func(_ string, v reflect.Value) {
		switch x := v.Interface().(type) {
		case api.Index:
			path(x.On)
		case api.Trigger:
			path(x.On)
		case api.Constraint:
			path(x.Table)
		case api.Source:
			path(x.Path)
		case api.Change:
			path(x.Path)
		case api.Expr:
			if x.Op == api.EName || x.Op == api.ECall {
				starts(x.Path)
			}
		case api.Stmt:
			if x.Op == api.SCall {
				starts(x.Path)
			}
		}
	})
	var l [][2]string
	for _, other := range c.Objects {
		if key := [2]string{other.Owner, other.Name}; meant[key] && key != [2]string{o.Owner, o.Name} {
			l = append(l, key)
		}
	}
	return l
}

// hanging returns for all objects on which others they hang: steps lead to them until there are no more.
func hanging(c api.Catalog) map[[2]string]map[[2]string]bool {
	named, all := map[[2]string][][2]string{}, map[[2]string]map[[2]string]bool{}
	for _, o := range c.Objects {
		key := [2]string{o.Owner, o.Name}
		named[key], all[key] = namedBy(c, o), map[[2]string]bool{}
	}
	for more := true; more; {
		more = false
		for key, reached := range all {
			count := len(reached)
			for _, to := range named[key] {
				reached[to] = true
				for further := range all[to] {
					reached[further] = true
				}
			}
			more = more || len(reached) > count
		}
	}
	for key, reached := range all {
		delete(reached, key)
	}
	return all
}

// expectNamed expects that Names, Hangs and On of all objects are what they should be: P6.3 and P6.9.
func expectNamed(t *testing.T, c api.Catalog) {
	t.Helper()
	hangs := hanging(c)
	for _, o := range c.Objects {
		key := [2]string{o.Owner, o.Name}
		var to, from [][2]string
		for _, other := range c.Objects {
			one := [2]string{other.Owner, other.Name}
			if hangs[key][one] {
				to = append(to, one)
			}
			if hangs[one][key] {
				from = append(from, one)
			}
		}
		what := o.Owner + "." + o.Name
		expectKeys(t, "Names", catalog.Names, c, what, written(namedBy(c, o)))
		expectKeys(t, "Hangs", catalog.Hangs, c, what, written(to))
		expectKeys(t, "On", catalog.On, c, what, written(from))
	}
}

// TestCircle: objects that name each other in a circle hang on each other, but not on themselves; none names itself.
func TestCircle(t *testing.T) {
	c := after(t, users(t, "ann"), "ann: create procedure p is begin q; p; end;", "ann: create procedure q is begin r; end;", "ann: create procedure r is begin p; end;", "ann: create procedure o is begin q; end;")
	for _, x := range []struct{ key, names, hangs, on string }{
		{"ann.p", "ann.q", "ann.q ann.r", "ann.o ann.q ann.r"},
		{"ann.q", "ann.r", "ann.p ann.r", "ann.o ann.p ann.r"},
		{"ann.r", "ann.p", "ann.p ann.q", "ann.o ann.p ann.q"},
		{"ann.o", "ann.q", "ann.p ann.q ann.r", ""},
	} {
		expectKeys(t, "Names", catalog.Names, c, x.key, x.names)
		expectKeys(t, "Hangs", catalog.Hangs, c, x.key, x.hangs)
		expectKeys(t, "On", catalog.On, c, x.key, x.on)
	}
}

// TestMark: P6.5.
func TestMark(t *testing.T) {
	c := world(t)
	old := copied(c)
	for _, o := range old.Objects {
		for _, valid := range []bool{false, true, false} {
			n, code := catalog.Mark(c, o.Owner, o.Name, valid)
			want, wanted := api.Catalog{}, api.ErrKind
			if o.Kind == api.OView || len(o.Unit) > 0 {
				want, wanted = with(c, func(c *api.Catalog) { at(t, c, o.Owner+"."+o.Name).Valid = valid }), api.OK
			}
			if code != wanted || !equal(n, want) || !catalog.Valid(n) {
				t.Errorf("Mark of %s.%s: %v, error %d", o.Owner, o.Name, n, code)
			}
			again := copied(n)
			if scribble(&n); !equal(c, old) {
				t.Fatalf("Mark of %s.%s shares memory", o.Owner, o.Name)
			}
			if code == api.OK {
				c = again
				old = copied(c)
			}
		}
	}
	if got := keysOf(c); got != "ann.child ann.f? ann.g? ann.i ann.k? ann.p? ann.s ann.t ann.v? bob.d bob.w?" {
		t.Errorf("marked: %s", got)
	}
}

func expectSorted(t *testing.T, c api.Catalog, want string) {
	t.Helper()
	old := copied(c)
	if l, code := catalog.Sorted(c); code != api.OK || written(l) != want || !equal(c, old) {
		t.Errorf("Sorted: %s, error %d, want %s", written(l), code, want)
	}
}

// TestSorted: P6.6.
func TestSorted(t *testing.T) {
	expectSorted(t, api.Catalog{}, "")
	expectSorted(t, world(t), "ann.s ann.t ann.child ann.i ann.v ann.p ann.f ann.k ann.g bob.d bob.w")
	c := after(t, users(t, "ann", "bob"), "ann: create procedure p is begin q; p; end;", "ann: create procedure q is begin r; bob.z; end;", "ann: create procedure r is begin p; end;", "ann: create procedure o is begin r; end;", "bob: create procedure z is begin z; end;")
	expectSorted(t, c, "bob.z ann.o ann.p ann.r ann.q")
	expectSorted(t, after(t, c, "ann: create sequence a start 1 by 1 cache 1;", "ann: drop procedure r;"), "ann.a ann.o bob.z ann.q ann.p")
}

// sortedBy sorts as P6.6 says.
func sortedBy(c api.Catalog) [][2]string {
	var all [][2]string
	has := func(key [2]string) bool { return slices.Contains(all, key) }
	for len(all) < len(c.Objects) {
		at, ready := -1, false
		for i, o := range c.Objects {
			key := [2]string{o.Owner, o.Name}
			if has(key) || ready {
				continue
			}
			missing := slices.DeleteFunc(namedBy(c, o), has)
			if ready = len(missing) == 0; ready || at < 0 {
				at = i
			}
		}
		all = append(all, [2]string{c.Objects[at].Owner, c.Objects[at].Name})
	}
	return all
}

func compareKeys(a, b [2]string) int {
	return cmp.Or(strings.Compare(a[0], b[0]), strings.Compare(a[1], b[1]))
}
