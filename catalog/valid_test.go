package catalog_test

import (
	"reflect"
	"slices"
	"strings"
	"testing"

	"justiciar/api"
	"justiciar/catalog"
	"justiciar/expr"
	"justiciar/query"
)

// badNames are strings that are no names.
func badNames() []string {
	return []string{"", "A", "1a", "_a", "a b", "a.b", "select", "all", "new", strings.Repeat("a", api.MaxName+1), "a\xff", "é"}
}

func ex(s string) api.Expr {
	e, f := expr.Parse(s)
	if f != (api.Fault{}) {
		panic(f)
	}
	return e
}

func qu(s string) api.Query {
	q, f := query.Parse(s)
	if f != (api.Fault{}) {
		panic(f)
	}
	return q
}

// nodes returns an expression with a number of nodes.
func nodes(n int) api.Expr {
	return api.Expr{Op: api.ECall, Path: []string{"f"}, Kids: slices.Repeat([]api.Expr{{Op: api.EStar}}, n-1)}
}

func expectValid(t *testing.T, what string, c api.Catalog, want bool) {
	t.Helper()
	old := copied(c)
	if catalog.Valid(c) != want {
		t.Errorf("%s: Valid is %v: %s", what, !want, encoded(c))
	}
	if !equal(c, old) {
		t.Errorf("%s: the catalog has changed", what)
	}
	if want {
		return
	}
	for code, e := range errorsOf(c) {
		if e != api.ErrArg {
			t.Errorf("%s: error %d of function %d, want ErrArg", what, e, code)
		}
	}
}

// errorsOf returns the errors of all functions that want a valid catalog, with arguments that are right otherwise.
func errorsOf(c api.Catalog) []api.Errno {
	_, a := catalog.Find(c, "ann", "t")
	_, b := catalog.Mean(c, "ann", []string{"t"})
	_, d := catalog.Names(c, "ann", "t")
	_, e := catalog.Hangs(c, "ann", "t")
	_, f := catalog.On(c, "ann", "t")
	_, g := catalog.Do(c, "ann", api.Def{Op: api.FUser, To: "dan"})
	_, h := catalog.Mark(c, "ann", "v", true)
	_, i := catalog.Sorted(c)
	return []api.Errno{a, b, d, e, f, g, h, i}
}

func TestValidSamples(t *testing.T) {
	c := world(t)
	expectValid(t, "the world", c, true)
	expectValid(t, "nothing", api.Catalog{}, true)
	for i := range c.Objects { // what an object names need not be there
		expectValid(t, "one object", with(c, func(c *api.Catalog) { c.Objects, c.Grants = c.Objects[i:i+1], nil }), true)
	}
	expectValid(t, "views and programs that are not Valid", with(c, func(c *api.Catalog) {
		for _, key := range strings.Fields("ann.f ann.g ann.k ann.p ann.v bob.w") {
			at(t, c, key).Valid = false
		}
	}), true)
	expectValid(t, "a Stamp of MaxInt", with(c, func(c *api.Catalog) { c.Stamp, at(t, c, "ann.t").Stamp = api.MaxInt, api.MaxInt }), true)
	expectValid(t, "a name of MaxName bytes", api.Catalog{Users: []string{strings.Repeat("a", api.MaxName)}}, true)
	expectValid(t, "a grant of each right to each kind", with(c, func(c *api.Catalog) {
		c.Grants = nil
		for right := api.RSelect; right <= api.RExecute; right++ {
			for _, o := range c.Objects {
				for _, to := range []string{"all", "cy"} {
					c.Grants = append(c.Grants, api.Grant{Right: right, Owner: o.Owner, Name: o.Name, To: to})
				}
			}
		}
	}), true)
}

func TestValidUsers(t *testing.T) {
	for i, name := range badNames() {
		expectValid(t, "the user "+name, api.Catalog{Users: []string{name}}, false)
		expectValid(t, "the name "+name, with(world(t), func(c *api.Catalog) { at(t, c, "ann.i").Name = name }), false)
		if i > 0 {
			l := []string{"a", "b", name}
			slices.Sort(l)
			expectValid(t, "among others the user "+name, api.Catalog{Users: l}, false)
		}
	}
	expectValid(t, "users that fall", api.Catalog{Users: []string{"b", "a"}}, false)
	expectValid(t, "a user twice", api.Catalog{Users: []string{"a", "b", "b"}}, false)
	expectValid(t, "MaxUsers users", api.Catalog{Users: numbered(api.MaxUsers)}, true)
	expectValid(t, "a user too many", api.Catalog{Users: numbered(api.MaxUsers + 1)}, false)
}

// TestValidSpoiled spoils the world in one way after the other.
func TestValidSpoiled(t *testing.T) {
	c := world(t)
	spoil := func(what string, change func(c *api.Catalog)) {
		t.Helper()
		expectValid(t, what, with(c, change), false)
	}
	spoil("Stamp -1", func(c *api.Catalog) { *c = api.Catalog{Stamp: -1} })
	spoil("a Stamp beyond MaxInt", func(c *api.Catalog) { c.Stamp = api.MaxInt + 1 })
	spoil("without an owner", func(c *api.Catalog) { c.Users, c.Grants = c.Users[:1], nil })
	spoil("with an object of nobody", func(c *api.Catalog) { c.Objects[0].Owner = "" })
	spoil("without one to whom rights are granted", func(c *api.Catalog) { c.Users = c.Users[:2] })
	spoil("objects that fall", func(c *api.Catalog) { c.Objects[0], c.Objects[1] = c.Objects[1], c.Objects[0] })
	spoil("owners that fall", func(c *api.Catalog) {
		slices.SortFunc(c.Objects, func(a, b api.Object) int { return strings.Compare(a.Name+a.Owner, b.Name+b.Owner) })
	})
	spoil("an object twice", func(c *api.Catalog) { c.Objects = slices.Insert(c.Objects, 1, c.Objects[0]) })
	for _, n := range []int{-1, 0, c.Stamp + 1} {
		spoil("an object with another Stamp", func(c *api.Catalog) { c.Objects[2].Stamp = n })
	}
	for _, key := range strings.Fields("ann.t ann.i ann.s") {
		spoil(key+" not Valid", func(c *api.Catalog) { at(t, c, key).Valid = false })
	}
	spoil("grants that fall", func(c *api.Catalog) { slices.Reverse(c.Grants) })
	spoil("a grant twice", func(c *api.Catalog) { c.Grants = slices.Insert(c.Grants, 1, c.Grants[0]) })
	grant := func(what string, change func(g *api.Grant)) {
		t.Helper()
		spoil("a grant "+what, func(c *api.Catalog) {
			g := api.Grant{Right: api.RSelect, Owner: "ann", Name: "v", To: "bob"}
			change(&g)
			c.Grants = []api.Grant{g}
		})
	}
	grant("of the right 0", func(g *api.Grant) { g.Right = 0 })
	grant("of the right 6", func(g *api.Grant) { g.Right = 6 })
	grant("of the right -1", func(g *api.Grant) { g.Right = -1 })
	grant("to nothing", func(g *api.Grant) { g.Name = "u" })
	grant("to an object of another one", func(g *api.Grant) { g.Owner = "cy" })
	grant("to the owner", func(g *api.Grant) { g.To = "ann" })
	grant("to nobody", func(g *api.Grant) { g.To = "" })
	grant("to no user", func(g *api.Grant) { g.To = "dan" })
	for _, order := range [][2]api.Grant{
		{{Right: 2, Owner: "ann", Name: "t", To: "bob"}, {Right: 1, Owner: "ann", Name: "t", To: "bob"}},
		{{Right: 1, Owner: "bob", Name: "d", To: "cy"}, {Right: 1, Owner: "ann", Name: "t", To: "cy"}},
		{{Right: 1, Owner: "ann", Name: "v", To: "bob"}, {Right: 1, Owner: "ann", Name: "t", To: "bob"}},
		{{Right: 1, Owner: "ann", Name: "t", To: "cy"}, {Right: 1, Owner: "ann", Name: "t", To: "bob"}},
	} {
		spoil("two grants that fall", func(c *api.Catalog) { c.Grants = order[:] })
		expectValid(t, "two grants that rise", with(c, func(c *api.Catalog) { c.Grants = []api.Grant{order[1], order[0]} }), true)
	}
}

func TestValidObjectCount(t *testing.T) {
	many := func(n int) api.Catalog {
		c := api.Catalog{Users: []string{"a", "b"}, Stamp: 1}
		for i := range n {
			c.Objects = append(c.Objects, api.Object{Owner: c.Users[i%2], Name: numbered(n)[i], Kind: api.OSerial, Serial: []api.Serial{{By: 1, Cache: 1}}, Stamp: 1, Valid: true})
		}
		slices.SortFunc(c.Objects, func(a, b api.Object) int { return strings.Compare(a.Owner+a.Name, b.Owner+b.Name) })
		return c
	}
	expectValid(t, "MaxObjects objects", many(api.MaxObjects), true)
	expectValid(t, "an object too many", many(api.MaxObjects+1), false)
}

// TestValidObjects spoils one object after the other.
func TestValidObjects(t *testing.T) {
	c := world(t)
	spoil := func(what, key string, change func(o *api.Object)) {
		t.Helper()
		expectValid(t, key+" "+what, with(c, func(c *api.Catalog) { change(at(t, c, key)) }), false)
	}
	for _, o := range c.Objects {
		key := o.Owner + "." + o.Name
		for kind := api.ObjKind(-1); kind <= api.OTrigger+1; kind++ {
			if kind != o.Kind && (kind != api.OPackage || o.Kind != api.OProc) { // a sub makes a package
				spoil("of another Kind", key, func(o *api.Object) { o.Kind = kind })
			}
		}
		spoil("with a table", key, func(o *api.Object) { o.Table = append(o.Table, at(t, &c, "bob.d").Table...) })
		spoil("with an index", key, func(o *api.Object) { o.Index = append(o.Index, at(t, &c, "ann.i").Index...) })
		spoil("with a sequence", key, func(o *api.Object) { o.Serial = append(o.Serial, at(t, &c, "ann.s").Serial...) })
		spoil("with a query", key, func(o *api.Object) { o.View = append(o.View, at(t, &c, "ann.v").View...) })
		spoil("with a unit", key, func(o *api.Object) { o.Unit = append(o.Unit, at(t, &c, "ann.k").Unit...) })
		spoil("with nothing", key, func(o *api.Object) { o.Table, o.Index, o.Serial, o.View, o.Unit = nil, nil, nil, nil, nil })
	}
	for _, l := range [][]string{nil, {"t"}, {"ann", "t", "a"}, {"", "t"}, {"ann", "all"}} {
		spoil("on another path", "ann.i", func(o *api.Object) { o.Index[0].On = l })
		spoil("on another path", "ann.g", func(o *api.Object) { o.Unit[0].On[0].On = l })
		spoil("to another path", "ann.child", func(o *api.Object) { o.Table[0].Cons[0].Table = l })
	}
	for _, l := range [][]string{nil, {"a", "b", "a"}, {""}, {"all"}, numbered(9)} {
		spoil("of other columns", "ann.i", func(o *api.Object) { o.Index[0].Cols = l })
	}
	spoil("with By 0", "ann.s", func(o *api.Object) { o.Serial[0].By = 0 })
	for _, n := range []int{api.MaxInt + 1, -api.MaxInt - 1} {
		spoil("with another By", "ann.s", func(o *api.Object) { o.Serial[0].By = n })
		spoil("with another Start", "ann.s", func(o *api.Object) { o.Serial[0].Start = n })
	}
	for _, n := range []int{-1, 0, 101} {
		spoil("with another Cache", "ann.s", func(o *api.Object) { o.Serial[0].Cache = n })
	}
	spoil("for update", "ann.v", func(o *api.Object) { o.View[0].Lock = true })
	spoil("without sources", "ann.v", func(o *api.Object) { o.View[0].From = nil })
	spoil("of another name", "ann.p", func(o *api.Object) { o.Unit[0].Subs[0].Name = "x" })
	spoil("of two subs", "ann.p", func(o *api.Object) { o.Unit[0].Subs = append(o.Unit[0].Subs, o.Unit[0].Subs...) })
	spoil("without a sub", "ann.f", func(o *api.Object) { o.Unit[0].Subs = nil })
	spoil("with a trigger", "ann.k", func(o *api.Object) { o.Unit[0].On = at(t, &c, "ann.g").Unit[0].On })
	spoil("without its trigger", "ann.g", func(o *api.Object) { o.Unit[0].On = nil })
	spoil("with a wrong statement", "ann.p", func(o *api.Object) { o.Unit[0].Subs[0].Block.Body[0].Op = 0 })
}

func TestValidTables(t *testing.T) {
	c := world(t)
	table := func(what string, want bool, change func(t *api.Table)) {
		t.Helper()
		expectValid(t, "a table with "+what, with(c, func(c *api.Catalog) { change(&at(t, c, "ann.t").Table[0]) }), want)
	}
	columns := func(n int) func(t *api.Table) {
		return func(t *api.Table) {
			t.Cons, t.Cols = nil, nil
			for _, name := range numbered(n) {
				t.Cols = append(t.Cols, api.Column{Name: name, Type: api.VInt})
			}
		}
	}
	constraints := func(n int) func(t *api.Table) {
		return func(t *api.Table) {
			t.Cons = nil
			for _, name := range numbered(n) {
				t.Cons = append(t.Cons, api.Constraint{Name: name, Op: api.KUnique, Cols: []string{"a"}})
			}
		}
	}
	table("no columns", false, columns(0))
	table("MaxCols columns", true, columns(api.MaxCols))
	table("a column too many", false, columns(api.MaxCols+1))
	table("10 constraints", true, constraints(10))
	table("11 constraints", false, constraints(11))
	table("a column twice", false, func(t *api.Table) { t.Cols[1].Name = "a" })
	table("a wrong column", false, func(t *api.Table) { t.Cols[1].Name = "all" })
	table("another Type", false, func(t *api.Table) { t.Cols[1].Type = api.VNull })
	table("a Type too many", false, func(t *api.Table) { t.Cols[1].Type = api.VBool + 1 })
	table("a wrong Default", false, func(t *api.Table) { t.Cols[0].Default = []api.Expr{{}} })
	table("two Defaults", false, func(t *api.Table) { t.Cols[0].Default = []api.Expr{ex("1"), ex("1")} })
	table("a resolved Default", false, func(t *api.Table) { t.Cols[0].Default = []api.Expr{{Op: api.ECol}} })
	table("the same constraint twice", false, func(t *api.Table) { t.Cons[1].Name = t.Cons[0].Name })
	table("a wrong constraint", false, func(t *api.Table) { t.Cons[1].Name = "A" })
	table("a constraint of no kind", false, func(t *api.Table) { t.Cons[0].Op = 0 })
	table("two primary keys", false, func(t *api.Table) { t.Cons[1] = api.Constraint{Name: "x", Op: api.KPrimary, Cols: []string{"b"}} })
	table("a key of a missing column", false, func(t *api.Table) { t.Cons[0].Cols = []string{"z"} })
	table("a key of a column twice", false, func(t *api.Table) { t.Cons[0].Cols = []string{"a", "a"} })
	table("a key of nothing", false, func(t *api.Table) { t.Cons[0].Cols = nil })
	table("a key with a Table", false, func(t *api.Table) { t.Cons[0].Table = []string{"ann", "t"} })
	table("a key with an Expr", false, func(t *api.Table) { t.Cons[0].Expr = []api.Expr{ex("a")} })
	table("a check without an Expr", false, func(t *api.Table) { t.Cons[1].Expr = nil })
	table("a check of two", false, func(t *api.Table) { t.Cons[1].Expr = []api.Expr{ex("a"), ex("b")} })
	table("a wrong check", false, func(t *api.Table) { t.Cons[1].Expr = []api.Expr{{Op: api.EUnary}} })
	table("a check of columns", false, func(t *api.Table) { t.Cons[1].Cols = []string{"a"} })
	table("a check with a Table", false, func(t *api.Table) { t.Cons[1].Table = []string{"ann", "t"} })
	table("a key of 8 columns", true, func(t *api.Table) {
		columns(8)(t)
		t.Cons = []api.Constraint{{Name: "k", Op: api.KUnique, Cols: numbered(8), Late: true}}
	})
	table("a key of 9 columns", false, func(t *api.Table) {
		columns(9)(t)
		t.Cons = []api.Constraint{{Name: "k", Op: api.KUnique, Cols: numbered(9)}}
	})
}

// TestValidNodes: layer 5 limits what one definition has, and layer 3 what an expression has.
func TestValidNodes(t *testing.T) {
	c := world(t)
	table := func(what string, n int, want bool) {
		t.Helper()
		expectValid(t, what, with(c, func(c *api.Catalog) {
			for i := range at(t, c, "ann.t").Table[0].Cols {
				at(t, c, "ann.t").Table[0].Cols[i].Default = []api.Expr{nodes(n)}
			}
		}), want)
		expectValid(t, what+" in a check", with(c, func(c *api.Catalog) { at(t, c, "ann.t").Table[0].Cons[1].Expr = []api.Expr{nodes(n)} }), want)
	}
	table("2,000 nodes each", 2000, true)
	table("2,001 nodes", 2001, false)
	unit := func(what string, n int, want bool) {
		t.Helper()
		expectValid(t, what, with(c, func(c *api.Catalog) {
			at(t, c, "ann.k").Unit[0] = api.Unit{Decls: []api.Decl{{Op: api.DVar, Name: "x", Type: api.Type{Base: api.VInt}, Init: []api.Expr{nodes(1999)}}, {Op: api.DVar, Name: "y", Type: api.Type{Base: api.VInt}, Init: []api.Expr{nodes(n)}}}}
		}), want)
	}
	unit("4,000 nodes", 1999, true)
	unit("4,001 nodes", 2000, false)
}

// TestNew: P6.1.
func TestNew(t *testing.T) {
	for _, l := range [][]string{nil, {"a"}, {"c", "a", "b"}, numbered(api.MaxUsers), {"b2", "b_", "b"}} {
		old := slices.Clone(l)
		c, code := catalog.New(l)
		sorted := slices.Sorted(slices.Values(l))
		if code != api.OK || !equal(c, api.Catalog{Users: sorted}) || !catalog.Valid(c) {
			t.Errorf("New of %q: %v, error %d", l, c, code)
		}
		if scribble(&c); !slices.Equal(l, old) {
			t.Errorf("New of %q shares memory", old)
		}
	}
	wrong := [][]string{{"a", "b", "a"}, numbered(api.MaxUsers + 1), slices.Repeat([]string{"all"}, 1000)}
	for _, name := range badNames() {
		wrong = append(wrong, []string{name}, []string{"b", name})
	}
	for _, l := range wrong {
		if c, code := catalog.New(l); code != api.ErrArg || !reflect.DeepEqual(c, api.Catalog{}) {
			t.Errorf("New of %q: %v, error %d", l, c, code)
		}
	}
}

// TestSame: P6.1. Each difference counts, but those of positions.
func TestSame(t *testing.T) {
	c := world(t)
	count := 0
	for target, more := 0, true; more; target++ {
		seen, position, n := 0, false, copied(c)
		more = false
		visit(reflect.ValueOf(&n).Elem(), "", func(name string, v reflect.Value) {
			if v.Kind() == reflect.Struct || v.Kind() == reflect.Array || more {
				return
			}
			if seen++; seen-1 == target {
				more, position = true, name == "Line" || name == "Col"
				differ(v)
			}
		})
		if !more {
			break
		}
		count++
		if got := catalog.Same(c, n); got != position || catalog.Same(n, c) != got {
			t.Errorf("Same is %v: %s", got, encoded(n))
		}
	}
	if count < 700 || !catalog.Same(c, copied(c)) || !catalog.Same(api.Catalog{}, api.Catalog{Users: []string{}}) {
		t.Errorf("%d differences", count)
	}
}

// differ changes one value.
func differ(v reflect.Value) {
	switch v.Kind() {
	case reflect.Int:
		v.SetInt(v.Int() + 1)
	case reflect.Bool:
		v.SetBool(!v.Bool())
	case reflect.String:
		v.SetString(v.String() + "x")
	case reflect.Slice:
		v.Set(reflect.Append(v, reflect.Zero(v.Type().Elem())))
	}
}
