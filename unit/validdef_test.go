package unit_test

import (
	"fmt"
	"reflect"
	"slices"
	"testing"

	"justiciar/api"
	"justiciar/lex"
	"justiciar/unit"
)

// wrongs are trees that are not valid, each with a name.
type wrongs map[string]api.Def

// spoil adds a copy of a definition with a change.
func (all wrongs) spoil(what string, d api.Def, change func(d *api.Def)) {
	if _, there := all[what]; there {
		panic(what)
	}
	all[what] = with(d, change)
}

// spoilFields gives each kind of definitions all fields that it does not have.
func (all wrongs) spoilFields() {
	objects := map[api.ObjKind]func(o *api.Object){
		api.OTable: func(o *api.Object) { o.Table = append(o.Table, api.Table{Cols: abc()}) }, api.OIndex: func(o *api.Object) { o.Index = append(o.Index, api.Index{On: path("t"), Cols: path("a")}) },
		api.OSerial: func(o *api.Object) { o.Serial = append(o.Serial, api.Serial{Start: 1, By: 1, Cache: 1}) }, api.OView: func(o *api.Object) { o.View = append(o.View, qu("select a from t")) },
		api.OPackage: func(o *api.Object) { o.Unit = append(o.Unit, api.Unit{}) },
	}
	for i, x := range defSamples() {
		d := x.tree
		spoil := func(what string, change func(d *api.Def)) { all.spoil(fmt.Sprint(i, " ", what), d, change) }
		spoil("Op 0", func(d *api.Def) { d.Op = 0 })
		spoil("Op 7", func(d *api.Def) { d.Op = 7 })
		spoil("another Op", func(d *api.Def) { d.Op = api.DefOp(map[api.DefOp]int{1: 2, 2: 3, 3: 1, 4: 2, 5: 6, 6: 4}[d.Op]) })
		for _, n := range badPositions() {
			spoil(fmt.Sprint("Line ", n), func(d *api.Def) { d.Line = n })
			spoil(fmt.Sprint("Col ", n), func(d *api.Def) { d.Col = n })
		}
		spoil("Stamp", func(d *api.Def) { d.Object.Stamp = 1 })
		spoil("Valid", func(d *api.Def) { d.Object.Valid = true })
		for kind, add := range objects {
			spoil(fmt.Sprint("more of ", kind), func(d *api.Def) { add(&d.Object) })
		}
		if d.Op != api.FCreate {
			spoil("Replace", func(d *api.Def) { d.Replace = true })
			spoil("Owner", func(d *api.Def) { d.Object.Owner = "a" })
			spoil("Name", func(d *api.Def) { d.Object.Name = "a" })
			spoil("Kind", func(d *api.Def) { d.Object.Kind = 8 })
			spoil("Kind -1", func(d *api.Def) { d.Object.Kind = -1 })
		}
		if d.Op == api.FCreate || d.Op == api.FUser {
			spoil("Path", func(d *api.Def) { d.Path = path("a") })
		} else {
			spoil("no Path", func(d *api.Def) { d.Path = nil })
			spoil("Path of three", func(d *api.Def) { d.Path = path("a.b.c") })
			for j, name := range badNames() {
				spoil(fmt.Sprint("first name ", j), func(d *api.Def) { d.Path = []string{name, "a"} })
				spoil(fmt.Sprint("last name ", j), func(d *api.Def) { d.Path = []string{"a", name} })
				spoil(fmt.Sprint("name ", j), func(d *api.Def) { d.Path = []string{name} })
			}
		}
		grants := d.Op == api.FGrant || d.Op == api.FRevoke
		if !grants {
			spoil("Right", func(d *api.Def) { d.Right = api.RSelect })
		} else {
			spoil("Right 0", func(d *api.Def) { d.Right = 0 })
			spoil("Right 6", func(d *api.Def) { d.Right = 6 })
			spoil("Right -1", func(d *api.Def) { d.Right = -1 })
		}
		if d.Op != api.FUser && !grants {
			spoil("To", func(d *api.Def) { d.To = "a" })
			spoil("To all", func(d *api.Def) { d.To = "all" })
			continue
		}
		for j, name := range badNames() {
			if name != "all" || d.Op == api.FUser {
				spoil(fmt.Sprint("To ", j), func(d *api.Def) { d.To = name })
			}
		}
	}
}

// spoilObjects spoils what is created: its names, kind, and its replacement.
func (all wrongs) spoilObjects() {
	for i, x := range append(tableSamples(), programSamples()...) {
		spoil := func(what string, change func(o *api.Object)) {
			all.spoil(fmt.Sprint(i, " object ", what), x.tree, func(d *api.Def) { change(&d.Object) })
		}
		for j, name := range badNames() {
			spoil(fmt.Sprint("Name ", j), func(o *api.Object) {
				o.Name = name
				if len(o.Unit) > 0 && len(o.Unit[0].Subs) == 1 {
					o.Unit[0].Subs[0].Name = name
				}
			})
			if name != "" {
				spoil(fmt.Sprint("Owner ", j), func(o *api.Object) { o.Owner = name })
			}
		}
		for kind := range api.ObjKind(10) {
			if kind != x.tree.Object.Kind && (kind != api.OPackage || x.tree.Object.Kind != api.OProc) { // a sub makes a package
				spoil(fmt.Sprint("Kind ", kind), func(o *api.Object) { o.Kind = kind })
			}
		}
		spoil("Kind -1", func(o *api.Object) { o.Kind = -1 })
		for _, kind := range []api.ObjKind{-1, 0, 8} {
			all.spoil(fmt.Sprint(i, " nothing of Kind ", kind), x.tree, func(d *api.Def) { d.Object, d.Replace = api.Object{Name: "a", Kind: kind}, false })
		}
		spoil("nothing", func(o *api.Object) { o.Table, o.Index, o.Serial, o.View, o.Unit = nil, nil, nil, nil, nil })
		if slices.Contains([]api.ObjKind{api.OTable, api.OIndex, api.OSerial}, x.tree.Object.Kind) {
			all.spoil(fmt.Sprint(i, " replaced"), x.tree, func(d *api.Def) { d.Replace = true })
		}
	}
}

// spoilTables spoils columns and constraints.
func (all wrongs) spoilTables() {
	spoil := func(what string, change func(t *api.Table)) {
		all.spoil("table "+what, created(wide()), func(d *api.Def) { change(&d.Object.Table[0]) })
	}
	for i, name := range badNames() {
		spoil(fmt.Sprint("column ", i), func(t *api.Table) { t.Cols[2].Name, t.Cons = name, nil })
		spoil(fmt.Sprint("constraint ", i), func(t *api.Table) { t.Cons[4].Name = name })
		spoil(fmt.Sprint("foreign owner ", i), func(t *api.Table) { t.Cons[2].Table[0] = name })
		spoil(fmt.Sprint("foreign name ", i), func(t *api.Table) { t.Cons[5].Table[0] = name })
		spoil(fmt.Sprint("key ", i), func(t *api.Table) { t.Cols[2].Name, t.Cons[1].Cols[0] = name, name })
	}
	for i, e := range badExprs() {
		spoil(fmt.Sprint("default ", i), func(t *api.Table) { t.Cols[1].Default[0] = e })
		spoil(fmt.Sprint("check ", i), func(t *api.Table) { t.Cons[3].Expr[0] = e })
	}
	for i, kind := range []api.Kind{-1, 0, 4} {
		spoil(fmt.Sprint("type ", i), func(t *api.Table) { t.Cols[1].Type = kind })
	}
	for i, op := range []api.ConOp{-1, 0, 5} {
		for j := range wide().Table[0].Cons {
			spoil(fmt.Sprint("constraint's Op ", i, j), func(t *api.Table) { t.Cons[j].Op = op })
		}
	}
	for i := range wide().Table[0].Cons[:3] {
		spoil(fmt.Sprint("keys with Expr ", i), func(t *api.Table) { t.Cons[i].Expr = exs("a") })
		spoil(fmt.Sprint("no keys ", i), func(t *api.Table) { t.Cons[i].Cols = nil })
		spoil(fmt.Sprint("keys twice ", i), func(t *api.Table) { t.Cons[i].Cols = path("b.a.b") })
		spoil(fmt.Sprint("other keys ", i), func(t *api.Table) { t.Cons[i].Cols = path("a.d") })
		spoil(fmt.Sprint("many keys ", i), func(t *api.Table) { t.Cons[i].Cols = path("a.b.c.a.b.c.a.b.c") })
	}
	spoil("no columns", func(t *api.Table) { t.Cols = nil })
	spoil("columns alone missing", func(t *api.Table) { t.Cols, t.Cons = nil, t.Cons[3:5] })
	spoil("a column twice", func(t *api.Table) { t.Cols[2].Name = "a" })
	spoil("a constraint twice", func(t *api.Table) { t.Cons[4].Name = "p" })
	spoil("two defaults", func(t *api.Table) { t.Cols[1].Default = exs("a", "b") })
	spoil("two primary keys", func(t *api.Table) { t.Cons[1].Op = api.KPrimary })
	spoil("unique with a table", func(t *api.Table) { t.Cons[1].Table = path("t") })
	spoil("primary with a table", func(t *api.Table) { t.Cons[0].Table = path("t") })
	spoil("foreign without a table", func(t *api.Table) { t.Cons[2].Table = nil })
	spoil("foreign with a long path", func(t *api.Table) { t.Cons[2].Table = path("a.b.c") })
	spoil("check with a table", func(t *api.Table) { t.Cons[3].Table = path("t") })
	spoil("check with columns", func(t *api.Table) { t.Cons[3].Cols = path("a") })
	spoil("check of nothing", func(t *api.Table) { t.Cons[3].Expr = nil })
	spoil("check of two", func(t *api.Table) { t.Cons[3].Expr = exs("a", "b") })
	spoil("many columns", func(t *api.Table) {
		for i := range api.MaxCols - 2 {
			t.Cols = append(t.Cols, column(fmt.Sprint("n", i), api.VInt))
		}
	})
	spoil("many constraints", func(t *api.Table) {
		for i := range 5 {
			t.Cons = append(t.Cons, check(fmt.Sprint("n", i), "a"))
		}
	})
}

// spoilOthers spoils indexes, sequences, views, and what is dropped or added.
func (all wrongs) spoilOthers() {
	for i, name := range badNames() {
		all.spoil(fmt.Sprint("index of ", i), created(index("i", "t", "a")), func(d *api.Def) { d.Object.Index[0].On[0] = name })
		all.spoil(fmt.Sprint("index key ", i), created(index("i", "t", "a.b")), func(d *api.Def) { d.Object.Index[0].Cols[1] = name })
		all.spoil(fmt.Sprint("added name ", i), altering("t", "a", api.VInt), func(d *api.Def) { d.Object.Table[0].Cols[0].Name = name })
	}
	all["index twice"] = created(index("i", "t", "a.b.a"))
	all["index of many"] = created(index("i", "t", "a.b.c.d.e.f.g.h.i"))
	all["index of a long path"] = created(index("i", "a.b.c", "a"))
	all.spoil("index of none", created(index("i", "t", "a")), func(d *api.Def) { d.Object.Index[0].On = nil })
	all.spoil("index without keys", created(index("i", "t", "a")), func(d *api.Def) { d.Object.Index[0].Cols = nil })
	for i, s := range []api.Serial{{}, {Start: 1, Cache: 1}, {Start: 1, By: 1}, {Start: 1, By: 1, Cache: -1}, {Start: 1, By: 1, Cache: 101}, {Start: api.MaxInt + 1, By: 1, Cache: 1}, {Start: -api.MaxInt - 1, By: 1, Cache: 1}, {By: api.MaxInt + 1, Cache: 1}, {By: -api.MaxInt - 1, Cache: 1}} {
		all[fmt.Sprint("sequence ", i)] = created(sequence("s", s.Start, s.By, s.Cache))
	}
	for i, q := range append(badQueries(), qu("select a from t for update")) {
		all.spoil(fmt.Sprint("view ", i), created(view("v", "select a from t")), func(d *api.Def) { d.Object.View[0] = q })
	}
	function := dropped(api.OProc, "f", true)
	all.spoil("dropped without a unit", function, func(d *api.Def) { d.Object.Unit = nil })
	all.spoil("dropped without a sub", function, func(d *api.Def) { d.Object.Unit[0].Subs = nil })
	all.spoil("dropped of no kind", dropped(api.OTable, "t", false), func(d *api.Def) { d.Object.Kind = 0 })
	all.spoil("dropped table with a sub", dropped(api.OTable, "t", false), func(d *api.Def) { d.Object.Unit = droppedUnit() })
	for i, change := range []func(s *api.Sub){func(s *api.Sub) { s.Line = 1 }, func(s *api.Sub) { s.Col = 1 }, func(s *api.Sub) { s.Name = "f" }, func(s *api.Sub) { s.Ret.Base = api.VInt }, func(s *api.Sub) { s.Auto = true }, func(s *api.Sub) { s.Private = true }, func(s *api.Sub) { s.Block = small() }, func(s *api.Sub) { s.Params = []api.Param{param("a", api.In, api.VInt)} }} {
		all.spoil(fmt.Sprint("dropped sub ", i), function, func(d *api.Def) { change(&d.Object.Unit[0].Subs[0]) })
	}
	all.spoil("dropped invoker", function, func(d *api.Def) { d.Object.Unit[0].Invoker = true })
	all.spoil("dropped of two subs", function, func(d *api.Def) { d.Object.Unit[0].Subs = append(d.Object.Unit[0].Subs, api.Sub{}) })
	added := altering("t", "a", api.VInt)
	all.spoil("added nothing", added, func(d *api.Def) { d.Object.Table = nil })
	all.spoil("added no column", added, func(d *api.Def) { d.Object.Table[0].Cols = nil })
	all.spoil("added two", added, func(d *api.Def) {
		d.Object.Table[0].Cols = append(d.Object.Table[0].Cols, column("b", api.VInt))
	})
	all.spoil("added with not null", added, func(d *api.Def) { d.Object.Table[0].Cols[0].NotNull = true })
	all.spoil("added with a default", added, func(d *api.Def) { d.Object.Table[0].Cols[0].Default = exs("1") })
	all.spoil("added with a constraint", added, func(d *api.Def) { d.Object.Table[0].Cons = []api.Constraint{check("c", "a")} })
	all.spoil("added without a type", added, func(d *api.Def) { d.Object.Table[0].Cols[0].Type = 0 })
	all.spoil("added of another type", added, func(d *api.Def) { d.Object.Table[0].Cols[0].Type = 4 })
	all.spoil("added to another kind", added, func(d *api.Def) { d.Object.Kind = api.OView })
}

func droppedUnit() []api.Unit { return dropped(api.OProc, "p", false).Object.Unit }

// spoilPrograms spoils units.
func (all wrongs) spoilPrograms() {
	for i, x := range programSamples() {
		spoil := func(what string, change func(u *api.Unit)) {
			all.spoil(fmt.Sprint(i, " program ", what), x.tree, func(d *api.Def) { change(&d.Object.Unit[0]) })
		}
		kind := x.tree.Object.Kind
		if kind == api.OTrigger {
			spoil("Invoker", func(u *api.Unit) { u.Invoker = true })
			spoil("two triggers", func(u *api.Unit) { u.On = append(u.On, u.On[0]) })
			spoil("no trigger", func(u *api.Unit) { u.On = nil })
			spoil("parameter", func(u *api.Unit) { u.Subs[0].Params = []api.Param{param("a", api.In, api.VInt)} })
			spoil("Auto", func(u *api.Unit) { u.Subs[0].Auto = true })
			spoil("Fun", func(u *api.Unit) { u.Subs[0].Fun, u.Subs[0].Ret.Base = true, api.VInt })
		} else {
			spoil("On", func(u *api.Unit) { u.On = []api.Trigger{{Events: events(event(api.CDelete)), On: path("t")}} })
		}
		if kind == api.OPackage {
			continue
		}
		spoil("Decls", func(u *api.Unit) { u.Decls = []api.Decl{exception("e")} })
		spoil("no sub", func(u *api.Unit) { u.Subs = nil })
		spoil("two subs", func(u *api.Unit) { u.Subs = append(u.Subs, u.Subs[0]) })
		spoil("another name", func(u *api.Unit) { u.Subs[0].Name = "another" })
		spoil("Private", func(u *api.Unit) { u.Subs[0].Private = true })
	}
	many := pack("k", nil, slices.Repeat([]api.Sub{procedure("p", small())}, api.MaxSubs+1)...)
	all["package of many subs"] = created(many)
	all["package of many declarations"] = created(pack("k", slices.Repeat([]api.Decl{exception("e")}, api.MaxVars+1)))
	for what, b := range wrongBlocks() {
		if len(b.Decls) == 2 {
			all["package: "+what] = created(pack("k", b.Decls))
		}
	}
	all.spoilSubs()
	all.spoilTriggers()
}

// spoilSubs spoils a function of a package.
func (all wrongs) spoilSubs() {
	spoil := func(what string, change func(s *api.Sub)) {
		all.spoil("sub "+what, created(pack("k", nil, procedure("p", small()), private(full()))), func(d *api.Def) { change(&d.Object.Unit[0].Subs[1]) })
	}
	for i, name := range badNames() {
		spoil(fmt.Sprint("Name ", i), func(s *api.Sub) { s.Name = name })
		spoil(fmt.Sprint("parameter ", i), func(s *api.Sub) { s.Params[1].Name = name })
	}
	for i, n := range badPositions() {
		spoil(fmt.Sprint("Line ", i), func(s *api.Sub) { s.Line = n })
		spoil(fmt.Sprint("Col ", i), func(s *api.Sub) { s.Col = n })
		spoil(fmt.Sprint("parameter's Line ", i), func(s *api.Sub) { s.Params[2].Line = n })
		spoil(fmt.Sprint("parameter's Col ", i), func(s *api.Sub) { s.Params[3].Col = n })
	}
	spoil("array", func(s *api.Sub) { s.Ret.Array = true })
	spoil("without Ret", func(s *api.Sub) { s.Ret = api.Type{} })
	spoil("of no type", func(s *api.Sub) { s.Ret.Base = 4 })
	spoil("of a negative type", func(s *api.Sub) { s.Ret.Base = -1 })
	spoil("procedure with Ret", func(s *api.Sub) { s.Fun = false })
	spoil("procedure with an array", func(s *api.Sub) { s.Fun, s.Ret = false, api.Type{Array: true} })
	spoil("parameter without a type", func(s *api.Sub) { s.Params[0].Type = api.Type{} })
	spoil("parameter of another type", func(s *api.Sub) { s.Params[3].Type.Base = 4 })
	spoil("parameter without a mode", func(s *api.Sub) { s.Params[0].Mode = 0 })
	spoil("parameter of another mode", func(s *api.Sub) { s.Params[3].Mode = 4 })
	spoil("parameter of a negative mode", func(s *api.Sub) { s.Params[3].Mode = -1 })
	spoil("many parameters", func(s *api.Sub) { s.Params = slices.Repeat(s.Params[:1], api.MaxParams+1) })
}

// spoilTriggers spoils a trigger.
func (all wrongs) spoilTriggers() {
	g := api.Trigger{Before: true, Each: true, Events: events(event(api.CInsert), event(api.CUpdate, "a", "b"), event(api.CDelete)), On: path("v.t"), When: exs(":new.a > 1")}
	spoil := func(what string, change func(g *api.Trigger)) {
		all.spoil("trigger "+what, created(trigger("u.g", rich(), g)), func(d *api.Def) { change(&d.Object.Unit[0].On[0]) })
	}
	for i, name := range badNames() {
		spoil(fmt.Sprint("of ", i), func(g *api.Trigger) { g.On[1] = name })
		spoil(fmt.Sprint("of an owner ", i), func(g *api.Trigger) { g.On[0] = name })
		spoil(fmt.Sprint("of the column ", i), func(g *api.Trigger) { g.Events[1].Cols[1] = name })
	}
	for i, e := range badExprs() {
		spoil(fmt.Sprint("when ", i), func(g *api.Trigger) { g.When[0] = e })
	}
	for i, op := range []api.ChangeOp{-1, 0, 4} {
		for j := range g.Events {
			spoil(fmt.Sprint("event ", i, j), func(g *api.Trigger) { g.Events[j].Op = op })
		}
	}
	spoil("of no table", func(g *api.Trigger) { g.On = nil })
	spoil("of a long path", func(g *api.Trigger) { g.On = path("a.b.c") })
	spoil("of no event", func(g *api.Trigger) { g.Events = nil })
	spoil("of many events", func(g *api.Trigger) { g.Events = slices.Repeat(g.Events[:1], api.MaxCols+1) })
	spoil("of many columns", func(g *api.Trigger) { g.Events[1].Cols = slices.Repeat(path("a"), api.MaxCols+1) })
	spoil("insert of columns", func(g *api.Trigger) { g.Events[0].Cols = path("a") })
	spoil("delete of columns", func(g *api.Trigger) { g.Events[2].Cols = path("a") })
	spoil("when, but not each", func(g *api.Trigger) { g.Each = false })
	spoil("two when", func(g *api.Trigger) { g.When = exs("a", "b") })
}

func wrongDefs() wrongs {
	all := wrongs{}
	all.spoilFields()
	all.spoilObjects()
	all.spoilTables()
	all.spoilOthers()
	all.spoilPrograms()
	return all
}

// P5.4, P5.2: what is not valid in a definition.
func TestWrongDefs(t *testing.T) {
	for what, d := range wrongDefs() {
		defs().expectWrong(t, what, d)
		scripts().expectWrong(t, what, []unit.Item{{Query: []api.Query{qu("select a from t")}}, {Def: []api.Def{d}}})
		for _, u := range d.Object.Unit {
			if d.Op == api.FCreate && len(d.Object.Unit) == 1 && isRightAround(d) && unit.ValidUnit(d.Object.Kind, d.Object.Name, u) {
				t.Errorf("valid unit: %s: %s", what, short(u))
			}
		}
	}
}

// isRightAround reports whether a definition of a program would be valid with another unit.
func isRightAround(d api.Def) bool {
	d.Object.Unit = pack("k", nil).Unit
	d.Object.Kind = api.OPackage
	return unit.ValidDef(d)
}

// P5.3: items that are none, or more than one.
func TestWrongItems(t *testing.T) {
	block, q, x, d := api.Block{}, qu("select a from t"), ch("delete from t"), dropped(api.OTable, "t", false)
	l := []unit.Item{{}, {Line: 1, Col: 1}, {Block: []api.Block{block, block}}, {Query: []api.Query{q, q}}, {Change: []api.Change{x, x}}, {Def: []api.Def{d, d}}, {Block: []api.Block{block}, Query: []api.Query{q}}, {Query: []api.Query{q}, Change: []api.Change{x}}, {Change: []api.Change{x}, Def: []api.Def{d}}, {Block: []api.Block{block}, Def: []api.Def{d}}}
	for _, n := range badPositions() {
		l = append(l, unit.Item{Block: []api.Block{block}, Line: n}, unit.Item{Query: []api.Query{q}, Col: n}, unit.Item{Change: []api.Change{x}, Line: n}, unit.Item{Def: []api.Def{d}, Col: n})
	}
	for _, q := range badQueries() {
		l = append(l, unit.Item{Query: []api.Query{q}})
	}
	for _, x := range badChanges() {
		l = append(l, unit.Item{Change: []api.Change{x}})
	}
	for i, x := range l {
		scripts().expectWrong(t, fmt.Sprint(i), []unit.Item{x})
		scripts().expectWrong(t, fmt.Sprint(i), []unit.Item{{Block: []api.Block{block}}, x, {Block: []api.Block{block}}})
	}
}

// P5.4: what a unit is valid as.
func TestValidUnit(t *testing.T) {
	for _, x := range programSamples() {
		o := x.tree.Object
		u := o.Unit[0]
		if !unit.ValidUnit(o.Kind, o.Name, u) || !unit.ValidUnit(o.Kind, o.Name, bare(u)) {
			t.Error("not valid:", x.text)
		}
		if got := unit.ValidUnit(o.Kind, "another", u); got != (o.Kind == api.OPackage) {
			t.Error(x.text, got)
		}
		for _, name := range badNames() {
			for i := range u.Subs {
				u = copied(u)
				u.Subs[i].Name = name
			}
			if unit.ValidUnit(o.Kind, name, u) {
				t.Errorf("valid: %q", name)
			}
		}
		for kind := range api.ObjKind(10) {
			want := kind == o.Kind || kind == api.OPackage && o.Kind == api.OProc
			if got := unit.ValidUnit(kind, o.Name, o.Unit[0]); got != want {
				t.Error(kind, x.text, got)
			}
		}
	}
	if unit.ValidUnit(0, "a", api.Unit{}) || unit.ValidUnit(-1, "a", api.Unit{}) || !unit.ValidUnit(api.OPackage, longest(), api.Unit{}) {
		t.Error("no kind, or no package")
	}
}

// emptied returns a copy of a tree in which each list that is missing is empty.
func emptied[T any](x T) T {
	c := copied(x)
	visit(reflect.ValueOf(&c).Elem(), "", func(name string, v reflect.Value) {
		if v.Kind() == reflect.Slice && v.Len() == 0 {
			v.Set(reflect.MakeSlice(v.Type(), 0, 3))
		}
	})
	return c
}

// withLongest returns a string with the longest name in place of each a.
func withLongest(s string) string {
	l, _ := lex.Lex(s)
	for i := range l {
		if l[i].Text == "a" {
			l[i].Text = longest()
		}
	}
	s, _ = lex.Text(l)
	return s
}

// P5.4, P5.5: names as long as they may be, the greatest positions, lists that are empty.
func TestValid(t *testing.T) {
	last := func() int { return api.MaxInt }
	for _, x := range blockSamples() {
		blocks().expectRight(t, x.text, placed(x.tree, last))
		blocks().expectRight(t, x.text, emptied(x.tree))
	}
	for _, x := range defSamples() {
		d := x.tree
		if d.Op != api.FDrop { // the sub of what is dropped has no position
			d = placed(d, last)
		}
		d.Line, d.Col = api.MaxInt, 0
		defs().expectRight(t, x.text, d)
		defs().expectRight(t, x.text, emptied(x.tree))
	}
	for _, s := range []string{"begin a := 1; end;", "declare a int; cursor a is select a from a.a a; a exception; begin a.a.a(a) := a.a; for a in a loop a.a(a.a.a); end loop; savepoint a; rollback to a; exception when a or a then raise a; end;"} {
		blocks().expectRight(t, s, blocks().tree(t, withLongest(s)))
	}
	for _, s := range []string{"create table a.a (a int, constraint a foreign key (a) references a.a);", "create trigger a.a before update of a, a on a.a for each row when (:new.a) begin end;", "create package a.a is procedure a (a int, a out array of int) is begin end; end;", "grant select on a.a to a;", "drop view a.a;", "alter table a.a add a int;", "create user a;", "create index a.a on a.a (a);"} {
		defs().expectRight(t, s, defs().tree(t, withLongest(s)))
	}
}

// returns returns statements with so many nodes, 4 at least.
func returns(n int) []api.Stmt {
	var l []api.Stmt
	for ; n > 2001; n -= 1000 {
		l = append(l, only(api.SReturn, nodes(999)))
	}
	return append(l, only(api.SReturn, nodes(n-1)))
}

// P5.4: 4,000 nodes: statements, declarations, handlers, and what layers 3 and 4 count. A block with more is not valid, one with as many just too long.
func TestMaxNodes(t *testing.T) {
	for s, n := range map[string]int{
		"begin end;": 0, "begin null; end;": 1, "declare a int; begin end;": 1, "declare a int := b + c; b array of int; begin end;": 5, "declare cursor a is select b from t as of 1, u; begin end;": 6, "declare a exception; begin end;": 1, "begin exception when a or b then null; end;": 2, "begin exception when a then when b then end;": 2,
		"begin begin end; end;": 1, "begin declare a int; begin null; exception when a then end; end;": 4, "begin if a then null; elsif b then null; else null; end if; end;": 6, "begin loop null; end loop; while a loop null; end loop; end;": 5, "begin for a in 1..2 loop end loop; end;": 3, "begin for a in (select b from t) loop end loop; end;": 4, "begin for a in b loop end loop; end;": 1,
		"begin select a into b, c(d) from t; end;": 7, "begin delete from t where a; end;": 3, "begin insert into t (a) select b from u; end;": 5, "begin forall a in 1..2 update t set b = c; end;": 5, "begin fetch a bulk collect into b limit c; end;": 3, "begin p(a, b); p; a := 1; :new.a := null; end;": 10, "begin rollback to a; savepoint b; commit; open c; close c; raise d; exit; exit when a; end;": 9,
	} {
		b := blocks().tree(t, s)
		b.Body = append(b.Body, returns(4000-n)...)
		if code := textError(unit.TextBlock(b)); !unit.ValidBlock(b) || code != api.ErrLimit {
			t.Error(s, n, code)
		}
		for what, more := range map[string]api.Block{"a statement": with(b, func(b *api.Block) { b.Body = append(b.Body, only(api.SNull)) }), "a declaration": with(b, func(b *api.Block) { b.Decls = append(b.Decls, exception("e")) }), "a handler": with(b, func(b *api.Block) { b.When = append(b.When, handler("e")) }), "a node": with(b, func(b *api.Block) { b.Body = append(b.Body[:len(b.Body)-1], returns(2001)...) })} {
			if n > 0 && what == "a node" {
				continue
			}
			blocks().expectWrong(t, s+" and "+what, more)
		}
	}
}

func textError(_ string, code api.Errno) api.Errno { return code }

// P5.4: 4,000 nodes of units and definitions: subs count as well, parameters, events and columns do not.
func TestMaxNodesOfDefs(t *testing.T) {
	for s, n := range map[string]int{
		"create procedure p is begin end;": 1, "create procedure p (a int, b text) is c int; begin null; end;": 3, "create package k is procedure p is begin end; end;": 1, "create package k is procedure p is begin end; private function f return int is begin return 1; end; a int := 2; end;": 6, "create package k is procedure p is begin end; cursor a is select b from t; e exception; end;": 6,
		"create trigger g after insert or update of a, b on t begin end;": 1, "create trigger g after insert on t for each row when (a = b) begin null; end;": 5,
	} {
		d := defs().tree(t, s)
		subs := d.Object.Unit[0].Subs
		subs[0].Block.Body = append(subs[0].Block.Body, returns(4000-n)...)
		o := d.Object
		if code := textError(unit.TextDef(d)); !unit.ValidDef(d) || code != api.ErrLimit || !unit.ValidUnit(o.Kind, o.Name, o.Unit[0]) {
			t.Error(s, n, code)
		}
		subs[0].Block.Body = append(subs[0].Block.Body, only(api.SNull))
		defs().expectWrong(t, s, d)
		if unit.ValidUnit(o.Kind, o.Name, o.Unit[0]) {
			t.Error(s, n)
		}
	}
	d := defs().tree(t, "create table t (a int, b text, c bool, constraint c check (d), constraint u unique (a));")
	cols, cons := d.Object.Table[0].Cols, d.Object.Table[0].Cons
	cols[0].Default, cols[2].Default, cons[0].Expr = exs(nodes(2000)), exs(nodes(1000)), exs(nodes(1000))
	if code := textError(unit.TextDef(d)); !unit.ValidDef(d) || code != api.ErrLimit {
		t.Error(code)
	}
	cols[1].Default = exs("1")
	defs().expectWrong(t, "a default more", d)
	cols[1].Default, cons[0].Expr = nil, exs(nodes(1001))
	defs().expectWrong(t, "a greater check", d)
}
