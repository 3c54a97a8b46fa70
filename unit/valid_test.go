package unit_test

import (
	"fmt"
	"slices"
	"strings"
	"testing"

	"justiciar/api"
	"justiciar/unit"
)

// with returns a copy of a tree with a change.
func with[T any](x T, change func(x *T)) T {
	c := copied(x)
	change(&c)
	return c
}

// badNames returns strings that are no names.
func badNames() []string {
	return []string{"", "select", "int", "all", "A", "1a", "_a", "a b", "a.b", "a-b", "é", "new", strings.Repeat("m", api.MaxName+1)}
}

// longest returns the longest name.
func longest() string { return strings.Repeat("m", api.MaxName) }

// badPositions returns numbers that are no lines and no columns.
func badPositions() []int { return []int{-1, api.MaxInt + 1, -api.MaxInt} }

// badExprs returns expressions that are not valid.
func badExprs() []api.Expr {
	return []api.Expr{
		{}, {Op: api.ECol}, {Op: api.EBind, A: 1}, {Op: api.EName}, {Op: api.EName, Path: path("select")}, {Op: api.EName, Path: path("a.b.c.d")}, {Op: api.EName, Path: path("a"), Text: ":"}, {Op: api.EName, Path: path("a"), Line: -1},
		{Op: api.EUnary, Text: "-", Kids: exs(deep(api.MaxNest))}, {Op: api.ECall, Path: path("f"), Kids: slices.Repeat(exs("a"), 2000)}, {Op: api.EConst, Val: api.Value{Kind: api.VInt, N: -1}}, {Op: api.ECase, Kids: exs("a")},
	}
}

// badTargets returns expressions that are no targets.
func badTargets() []api.Expr {
	return append(badExprs(), exs(":old.a", "1", "null", "a(1, 2)", "f()", "count(a)", "count(*)", "a + b", "- a", "a is null", "a%found", "(select a from t)", "case when a then b end", "exists (select a from t)")...)
}

// badQueries returns queries that are not valid.
func badQueries() []api.Query {
	return []api.Query{{}, {Star: true}, with(qu("select a from t"), func(q *api.Query) { q.Star = true }), with(qu("select a from t"), func(q *api.Query) { q.Line = -1 }), with(qu("select a from t"), func(q *api.Query) { q.Where = exs("a", "b") }), with(qu("select a from t"), func(q *api.Query) { q.Where = badExprs()[:1] })}
}

// badChanges returns changes that are not valid.
func badChanges() []api.Change {
	return []api.Change{{}, {Op: api.CDelete}, {Op: 4, Path: path("t")}, {Op: api.CDelete, Path: path("t"), Col: -1}, {Op: api.CInsert, Path: path("t"), Query: []api.Query{qu("select a from t for update")}}}
}

// extra is a field that a statement may have, with statements that may have it in addition to what they have.
type extra struct {
	what  string
	add   func(s *api.Stmt)
	right func(s api.Stmt) bool
}

func isOp(ops ...api.StmtOp) func(s api.Stmt) bool {
	return func(s api.Stmt) bool { return slices.Contains(ops, s.Op) }
}

// extras returns what is added to each statement.
func extras() []extra {
	return []extra{
		{"Text", func(s *api.Stmt) { s.Text += "x" }, isOp(api.SFor, api.SForall, api.SEach, api.SSave, api.SRollback)},
		{"Path", func(s *api.Stmt) { s.Path = append(s.Path, "x") }, func(s api.Stmt) bool {
			return s.Op == api.SRaise && len(s.Path) == 0 || s.Op == api.SCall && len(s.Path) < 3
		}},
		{"Target", func(s *api.Stmt) { s.Target = append(s.Target, ex("x")) }, isOp(api.SSelect, api.SFetch)},
		{"Exprs", func(s *api.Stmt) { s.Exprs = append(s.Exprs, ex("x")) }, func(s api.Stmt) bool {
			return s.Op == api.SCall || (s.Op == api.SExit || s.Op == api.SReturn || s.Op == api.SFetch && s.Bulk) && len(s.Exprs) == 0 || s.Op == api.SIf && len(s.Bodies) > len(s.Exprs)
		}},
		{"Bodies", func(s *api.Stmt) { s.Bodies = append(s.Bodies, row(call("x"))) }, func(s api.Stmt) bool { return s.Op == api.SIf && len(s.Bodies) == len(s.Exprs) }},
		{"Block", func(s *api.Stmt) { s.Block = append(s.Block, small()) }, isOp()},
		{"Query", func(s *api.Stmt) { s.Query = append(s.Query, qu("select a from t")) }, isOp()},
		{"Change", func(s *api.Stmt) { s.Change = append(s.Change, ch("delete from t")) }, isOp()},
		{"Back", func(s *api.Stmt) { s.Back = !s.Back }, func(s api.Stmt) bool { return s.Op == api.SFor && (!s.Back || s.Exprs[0].Op != api.EQuery) }},
		{"Bulk", func(s *api.Stmt) { s.Bulk = !s.Bulk }, func(s api.Stmt) bool { return s.Op == api.SSelect || s.Op == api.SFetch && len(s.Exprs) == 0 }},
		{"Op 0", func(s *api.Stmt) { s.Op = 0 }, isOp()},
		{"Op 22", func(s *api.Stmt) { s.Op = 22 }, isOp()},
		{"Op -1", func(s *api.Stmt) { s.Op = -1 }, isOp()},
		{"Line -1", func(s *api.Stmt) { s.Line = -1 }, isOp()},
		{"Col -1", func(s *api.Stmt) { s.Col = -1 }, isOp()},
		{"a great Line", func(s *api.Stmt) { s.Line = api.MaxInt + 1 }, isOp()},
		{"a great Col", func(s *api.Stmt) { s.Col = api.MaxInt + 1 }, isOp()},
		{"the greatest position", func(s *api.Stmt) { s.Line, s.Col = api.MaxInt, api.MaxInt }, func(api.Stmt) bool { return true }},
	}
}

// lesses returns what is taken from each statement that has it.
func lesses() []extra {
	return []extra{
		{"Text", func(s *api.Stmt) { s.Text = "" }, isOp(api.SRollback)},
		{"Path", func(s *api.Stmt) { s.Path = s.Path[:max(len(s.Path)-1, 0)] }, func(s api.Stmt) bool { return s.Op == api.SRaise || s.Op == api.SCall && len(s.Path) > 1 }},
		{"Target", func(s *api.Stmt) { s.Target = s.Target[:max(len(s.Target)-1, 0)] }, func(s api.Stmt) bool { return len(s.Target) > 1 }},
		{"Exprs", func(s *api.Stmt) { s.Exprs = s.Exprs[:max(len(s.Exprs)-1, 0)] }, func(s api.Stmt) bool {
			return slices.Contains([]api.StmtOp{api.SCall, api.SExit, api.SReturn, api.SFetch}, s.Op) || s.Op == api.SIf && len(s.Exprs) > 1 && len(s.Bodies) == len(s.Exprs)
		}},
		{"Bodies", func(s *api.Stmt) { s.Bodies = s.Bodies[:max(len(s.Bodies)-1, 0)] }, func(s api.Stmt) bool { return s.Op == api.SIf && len(s.Bodies) > len(s.Exprs) }},
		{"Block", func(s *api.Stmt) { s.Block = nil }, isOp()},
		{"Query", func(s *api.Stmt) { s.Query = nil }, isOp()},
		{"Change", func(s *api.Stmt) { s.Change = nil }, isOp()},
	}
}

// P5.4, P5.1: each kind of statements has just its fields.
func TestFieldsOfStmts(t *testing.T) {
	expect := func(what string, s api.Stmt, right bool) {
		t.Helper()
		if b := (api.Block{Body: row(s)}); right {
			blocks().expectRight(t, what, b)
		} else {
			blocks().expectWrong(t, what, b)
		}
	}
	for _, x := range stmtSamples() {
		for _, more := range extras() {
			expect("more "+more.what, with(x.tree, more.add), more.right(x.tree))
		}
		for _, less := range lesses() {
			s := with(x.tree, less.add)
			expect("less "+less.what, s, less.right(x.tree) || unchanged(s, x.tree))
		}
	}
}

func unchanged(a, b api.Stmt) bool { return fmt.Sprint(bare(a)) == fmt.Sprint(bare(b)) }

// wrongStmts returns statements that have what their kind wants, but not as it should be.
func wrongStmts() map[string]api.Stmt {
	all := map[string]api.Stmt{}
	add := func(what string, i int, s api.Stmt) { all[fmt.Sprint(what, " ", i)] = s }
	for i, name := range badNames() {
		if name != "" {
			add("rollback", i, texted(api.SRollback, name))
		}
		add("savepoint", i, texted(api.SSave, name))
		add("for", i, between(name, "1", "2", false))
		add("for rows", i, forRows(name, "select a from t"))
		add("for cursor", i, forCursor(name, "c"))
		add("forall", i, forAll(name, "1", "2", "delete from t"))
		for what, l := range map[string][]string{"": {name}, "first": {name, "a"}, "last": {"a", name}} {
			add("call "+what, i, api.Stmt{Op: api.SCall, Path: l})
			for _, op := range []api.StmtOp{api.SOpen, api.SClose, api.SRaise} {
				add(fmt.Sprint(op, what), i, api.Stmt{Op: op, Path: l})
			}
			add("fetch "+what, i, api.Stmt{Op: api.SFetch, Path: l, Target: exs("a")})
			add("for cursor "+what, i, api.Stmt{Op: api.SEach, Text: "a", Path: l, Bodies: bodies(nil)})
		}
	}
	for i, e := range badExprs() {
		for what, s := range map[string]api.Stmt{"assign": set("a", "b"), "if": branches(exs("a"), nil), "while": {Op: api.SWhile, Exprs: exs("a"), Bodies: bodies(nil)}, "for": between("a", "1", "2", true), "exit": only(api.SExit, "a"), "return": only(api.SReturn, "a"), "call": call("a", "b"), "fetch": fetched("a", true, exs("1"), "b"), "forall": forAll("a", "1", "2", "delete from t")} {
			s.Exprs[len(s.Exprs)-1] = e
			add(what, i, s)
		}
	}
	for i, e := range badTargets() {
		for what, s := range map[string]api.Stmt{"set": set("a", "b"), "select": selected("select a from t", false, "a", "b"), "fetch": fetched("a", true, nil, "a", "b")} {
			s.Target[len(s.Target)-1] = e
			add(what, i, s)
		}
		add("target", i, api.Stmt{Op: api.SAssign, Target: []api.Expr{{Op: api.ECall, Path: path("a"), Kids: []api.Expr{e, e}}}, Exprs: exs("1")})
	}
	for i, q := range append(badQueries(), qu("select * from t")) {
		add("select", i, api.Stmt{Op: api.SSelect, Query: []api.Query{q}, Target: exs("a")})
		if i < len(badQueries()) {
			add("for rows", i, api.Stmt{Op: api.SEach, Text: "a", Query: []api.Query{q}, Bodies: bodies(nil)})
		}
	}
	for i, x := range badChanges() {
		add("change", i, api.Stmt{Op: api.SChange, Change: []api.Change{x}})
		add("forall", i, api.Stmt{Op: api.SForall, Text: "a", Exprs: exs("1", "2"), Change: []api.Change{x}})
	}
	all["for rows of both"] = with(forRows("a", "select b from t"), func(s *api.Stmt) { s.Path = path("c") })
	all["for a query as bound"] = between("a", "(select a from t)", "2", false)
	all["path of four"] = call("a.b.c.d")
	return all
}

// P5.4, P5.1: what is not valid in a statement, wherever that stands.
func TestWrongStmts(t *testing.T) {
	for what, s := range wrongStmts() {
		for i, around := range []func(l ...api.Stmt) api.Stmt{
			func(l ...api.Stmt) api.Stmt { return l[0] },
			func(l ...api.Stmt) api.Stmt { return inner(api.Block{Body: row(only(api.SNull), l[0])}) },
			func(l ...api.Stmt) api.Stmt {
				return inner(api.Block{When: []api.Handler{handler("a"), handler("b", l...)}})
			},
			func(l ...api.Stmt) api.Stmt { return branches(exs("a"), nil, l) },
			func(l ...api.Stmt) api.Stmt { return between("a", "1", "2", false, l...) },
		} {
			b := api.Block{Body: row(around(s))}
			blocks().expectWrong(t, fmt.Sprint(what, " ", i), b)
			defs().expectWrong(t, fmt.Sprint(what, " ", i), created(program("", procedure("p", b))))
			defs().expectWrong(t, fmt.Sprint(what, " ", i), created(pack("k", nil, procedure("p", small()), procedure("q", b))))
		}
	}
}

// wrongBlocks returns blocks that are not valid.
func wrongBlocks() map[string]api.Block {
	all := map[string]api.Block{}
	add := func(what string, b api.Block) { all[what] = b }
	decl := func(what string, d api.Decl) {
		add("declare "+what, api.Block{Decls: []api.Decl{variable("a", api.VInt), d}})
	}
	when := func(what string, h api.Handler) {
		add("handler "+what, api.Block{When: []api.Handler{handler("a"), h}})
	}
	for i, name := range badNames() {
		for _, d := range []api.Decl{variable(name, api.VInt), array(name, api.VInt), declared(name, "select a from t"), exception(name)} {
			decl(fmt.Sprint(d.Op, d.Type, "name ", i), d)
		}
		when(fmt.Sprint("first ", i), api.Handler{Names: []string{name, "a"}})
		when(fmt.Sprint("last ", i), api.Handler{Names: []string{"a", name}})
	}
	for i, e := range badExprs() {
		decl(fmt.Sprint("init ", i), with(variable("a", api.VInt), func(d *api.Decl) { d.Init = []api.Expr{e} }))
	}
	for i, q := range badQueries() {
		decl(fmt.Sprint("query ", i), api.Decl{Op: api.DCursor, Name: "a", Query: []api.Query{q}})
	}
	for _, x := range declSamples() {
		for i, change := range []func(d *api.Decl){
			func(d *api.Decl) { d.Query = append(d.Query, qu("select a from t")) }, func(d *api.Decl) { d.Op = 0 }, func(d *api.Decl) { d.Op = 4 }, func(d *api.Decl) { d.Name = "" },
			func(d *api.Decl) { d.Type.Base += 4 }, func(d *api.Decl) { d.Type.Base = -1 }, func(d *api.Decl) { d.Init = append(d.Init, exs("a", "b")...) }, func(d *api.Decl) { d.Line = -1 }, func(d *api.Decl) { d.Col = -1 }, func(d *api.Decl) { d.Line = api.MaxInt + 1 },
		} {
			decl(fmt.Sprint(x.text, i), with(x.tree, change))
		}
	}
	decl("no type", api.Decl{Op: api.DVar, Name: "a"})
	decl("array with a value", with(array("a", api.VInt), func(d *api.Decl) { d.Init = exs("1") }))
	decl("cursor with a value", with(declared("a", "select a from t"), func(d *api.Decl) { d.Init = exs("1") }))
	decl("cursor with a type", with(declared("a", "select a from t"), func(d *api.Decl) { d.Type.Base = api.VInt }))
	decl("array of cursors", with(declared("a", "select a from t"), func(d *api.Decl) { d.Type.Array = true }))
	decl("cursor without a query", api.Decl{Op: api.DCursor, Name: "a"})
	decl("exception with a value", with(exception("a"), func(d *api.Decl) { d.Init = exs("1") }))
	decl("exception with a type", with(exception("a"), func(d *api.Decl) { d.Type.Base = api.VInt }))
	decl("array of exceptions", with(exception("a"), func(d *api.Decl) { d.Type.Array = true }))
	when("without names", api.Handler{})
	when("at no line", with(handler("a"), func(h *api.Handler) { h.Line = -1 }))
	when("at no column", with(handler("a"), func(h *api.Handler) { h.Col = api.MaxInt + 1 }))
	when("with many names", api.Handler{Names: slices.Repeat(path("a"), 21)})
	when("with many statements", handler("a", slices.Repeat(row(call("a")), 51)...))
	add("many declarations", api.Block{Decls: slices.Repeat([]api.Decl{exception("a")}, api.MaxVars+1)})
	add("many statements", api.Block{Body: slices.Repeat(row(call("a")), 51)})
	add("many handlers", api.Block{When: slices.Repeat([]api.Handler{handler("a")}, 21)})
	return all
}

// P5.4, P5.1: what is not valid in a block, wherever that stands.
func TestWrongBlocks(t *testing.T) {
	for what, b := range wrongBlocks() {
		blocks().expectWrong(t, what, b)
		blocks().expectWrong(t, what+" within", api.Block{Body: row(call("a"), inner(b))})
		defs().expectWrong(t, what+" of a sub", created(program("", function("f", api.VInt, b))))
		defs().expectWrong(t, what+" of a trigger", created(trigger("g", b, api.Trigger{Events: events(event(api.CDelete)), On: path("t")})))
		scripts().expectWrong(t, what, []unit.Item{{Block: []api.Block{b}}})
	}
}
