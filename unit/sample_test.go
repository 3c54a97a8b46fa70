package unit_test

import "justiciar/api"

func call(s string, args ...string) api.Stmt {
	return api.Stmt{Op: api.SCall, Path: path(s), Exprs: exs(args...)}
}

func row(l ...api.Stmt) []api.Stmt { return l }

func bodies(l ...[]api.Stmt) [][]api.Stmt { return l }

func only(op api.StmtOp, exprs ...string) api.Stmt { return api.Stmt{Op: op, Exprs: exs(exprs...)} }

func set(target, value string) api.Stmt {
	return api.Stmt{Op: api.SAssign, Target: exs(target), Exprs: exs(value)}
}

func texted(op api.StmtOp, text string) api.Stmt { return api.Stmt{Op: op, Text: text} }

func cursor(op api.StmtOp, name string) api.Stmt { return api.Stmt{Op: op, Path: path(name)} }

func selected(q string, bulk bool, targets ...string) api.Stmt {
	return api.Stmt{Op: api.SSelect, Query: []api.Query{qu(q)}, Bulk: bulk, Target: exs(targets...)}
}

func fetched(name string, bulk bool, limit []api.Expr, targets ...string) api.Stmt {
	return api.Stmt{Op: api.SFetch, Path: path(name), Bulk: bulk, Target: exs(targets...), Exprs: limit}
}

func changed(s string) api.Stmt { return api.Stmt{Op: api.SChange, Change: []api.Change{ch(s)}} }

func forAll(name, low, high, change string) api.Stmt {
	return api.Stmt{Op: api.SForall, Text: name, Exprs: exs(low, high), Change: []api.Change{ch(change)}}
}

func inner(b api.Block) api.Stmt { return api.Stmt{Op: api.SBlock, Block: []api.Block{b}} }

// branches returns an if with bodies.
func branches(exprs []api.Expr, l ...[]api.Stmt) api.Stmt {
	return api.Stmt{Op: api.SIf, Exprs: exprs, Bodies: l}
}

// between returns a loop for the integers between bounds.
func between(name, low, high string, back bool, body ...api.Stmt) api.Stmt {
	return api.Stmt{Op: api.SFor, Text: name, Exprs: exs(low, high), Back: back, Bodies: bodies(body)}
}

// forRows returns a loop for the rows of a query.
func forRows(name, q string, body ...api.Stmt) api.Stmt {
	return api.Stmt{Op: api.SEach, Text: name, Query: []api.Query{qu(q)}, Bodies: bodies(body)}
}

// forCursor returns a loop for the rows of a cursor.
func forCursor(name, c string, body ...api.Stmt) api.Stmt {
	return api.Stmt{Op: api.SEach, Text: name, Path: path(c), Bodies: bodies(body)}
}

func variable(name string, base api.Kind, init ...string) api.Decl {
	return api.Decl{Op: api.DVar, Name: name, Type: api.Type{Base: base}, Init: exs(init...)}
}

func array(name string, base api.Kind) api.Decl {
	return api.Decl{Op: api.DVar, Name: name, Type: api.Type{Base: base, Array: true}}
}

func declared(name, q string) api.Decl {
	return api.Decl{Op: api.DCursor, Name: name, Query: []api.Query{qu(q)}}
}

func exception(name string) api.Decl { return api.Decl{Op: api.DExc, Name: name} }

func handler(names string, body ...api.Stmt) api.Handler {
	return api.Handler{Names: path(names), Body: body}
}

// small returns a block of one statement.
func small() api.Block { return api.Block{Body: row(only(api.SNull))} }

// rich returns a block that has all that one may have.
func rich() api.Block {
	return api.Block{
		Decls: []api.Decl{variable("a", api.VInt), array("b", api.VText), declared("c", "select a from t for update"), exception("d")},
		Body:  row(set("a", "1"), only(api.SNull), inner(small())),
		When:  []api.Handler{handler("zero_divide.d.others", only(api.SRaise)), handler("e"), handler("f", call("p"), only(api.SReturn, "1"))},
	}
}

const richText = "declare a int ; b array of text ; cursor c is select a from t for update ; d exception ; begin a := 1 ; null ; begin null ; end ; exception when zero_divide or d or others then raise ; when e then when f then p ; return 1 ; end ;"

// stmtSamples returns statements of all kinds.
func stmtSamples() []sample[api.Stmt] {
	return append(bodiedSamples(), []sample[api.Stmt]{
		{"null;", only(api.SNull), "null ;"},
		{"commit;", only(api.SCommit), "commit ;"},
		{"rollback;", texted(api.SRollback, ""), "rollback ;"},
		{"rollback to others;", texted(api.SRollback, "others"), "rollback to others ;"},
		{"savepoint s;", texted(api.SSave, "s"), "savepoint s ;"},
		{"a:=1;", set("a", "1"), "a := 1 ;"},
		{"a.b := a.b + 1;", set("a.b", "a.b + 1"), "a . b := a . b + 1 ;"},
		{"a.b.c := not d or e;", set("a.b.c", "not d or e"), "a . b . c := ( not d ) or e ;"},
		{":new.a := :old.a;", set(":new.a", ":old.a"), ": new . a := : old . a ;"},
		{"a(1) := (select b from t);", set("a(1)", "(select b from t)"), "a ( 1 ) := ( select b from t ) ;"},
		{"a.b.c(not d) := null;", set("a.b.c(not d)", "null"), "a . b . c ( not d ) := null ;"},
		{"p;", call("p"), "p ;"},
		{"p();", call("p"), "p ;"},
		{"a.b.c;", call("a.b.c"), "a . b . c ;"},
		{"put(a||'x');", call("put", "a || 'x'"), "put ( a || 'x' ) ;"},
		{"a.b(1, not c, (d));", call("a.b", "1", "not c", "d"), "a . b ( 1 , not c , d ) ;"},
		{"a.b.c((select d from t));", call("a.b.c", "(select d from t)"), "a . b . c ( ( select d from t ) ) ;"},
		{"exit;", only(api.SExit), "exit ;"},
		{"exit when a = 8;", only(api.SExit, "a = 8"), "exit when a = 8 ;"},
		{"return;", only(api.SReturn), "return ;"},
		{"return -a;", only(api.SReturn, "-a"), "return - a ;"},
		{"return (a);", only(api.SReturn, "a"), "return a ;"},
		{"raise;", only(api.SRaise), "raise ;"},
		{"raise zero_divide;", cursor(api.SRaise, "zero_divide"), "raise zero_divide ;"},
		{"insert into t values (1);", changed("insert into t values (1)"), "insert into t values ( 1 ) ;"},
		{"insert into t select * from u;", changed("insert into t select * from u"), "insert into t select * from u ;"},
		{"update u.t set a = 1 where b;", changed("update u.t set a = 1 where b"), "update u . t set a = 1 where b ;"},
		{"delete from t;", changed("delete from t"), "delete from t ;"},
		{"open c;", cursor(api.SOpen, "c"), "open c ;"},
		{"close c;", cursor(api.SClose, "c"), "close c ;"},
		{"fetch c into a;", fetched("c", false, nil, "a"), "fetch c into a ;"},
		{"fetch c into a.b.c, d(1), :new.e;", fetched("c", false, nil, "a.b.c", "d(1)", ":new.e"), "fetch c into a . b . c , d ( 1 ) , : new . e ;"},
		{"fetch c bulk collect into a;", fetched("c", true, nil, "a"), "fetch c bulk collect into a ;"},
		{"fetch c bulk collect into a, b limit 2 * c;", fetched("c", true, exs("2 * c"), "a", "b"), "fetch c bulk collect into a , b limit 2 * c ;"},
		{"select a into b from t;", selected("select a from t", false, "b"), "select a into b from t ;"},
		{"forall i in 1 .. a.size insert into t values (a(i));", forAll("i", "1", "a.size", "insert into t values (a(i))"), "forall i in 1 .. a . size insert into t values ( a ( i ) ) ;"},
		{"forall i in (select a from t)..-b update t set a = i;", forAll("i", "(select a from t)", "-b", "update t set a = i"), "forall i in ( select a from t ) .. ( - b ) update t set a = i ;"},
		{"forall i in (a = b)..c + 1 delete from t;", forAll("i", "a = b", "c + 1", "delete from t"), "forall i in ( a = b ) .. ( c + 1 ) delete from t ;"},
	}...)
}

// bodiedSamples returns statements with statements in them, of all kinds.
func bodiedSamples() []sample[api.Stmt] {
	const q = "select distinct a as x, b from t y, u as of 7 where f group by g having h order by i desc"
	a, b, c := row(call("a")), row(call("b"), call("c")), row(call("c"))
	return []sample[api.Stmt]{
		{"begin end;", inner(api.Block{}), "begin end ;"},
		{"declare begin exception end;", inner(api.Block{}), "begin end ;"},
		{richText, inner(rich()), richText},
		{"if a then end if;", branches(exs("a"), nil), "if a then end if ;"},
		{"if a then else end if;", branches(exs("a"), nil, nil), "if a then else end if ;"},
		{"if a or b then a; elsif not c then b; c; end if;", branches(exs("a or b", "not c"), a, b), "if a or b then a ; elsif not c then b ; c ; end if ;"},
		{"if a then a; elsif b then elsif c then b; c; else c; end if;", branches(exs("a", "b", "c"), a, nil, b, c), "if a then a ; elsif b then elsif c then b ; c ; else c ; end if ;"},
		{"if a then a; else if b then b; c; else c; end if; end if;", branches(exs("a"), a, row(branches(exs("b"), b, c))), "if a then a ; else if b then b ; c ; else c ; end if ; end if ;"},
		{"loop end loop;", api.Stmt{Op: api.SLoop, Bodies: bodies(nil)}, "loop end loop ;"},
		{"loop b; c; end loop;", api.Stmt{Op: api.SLoop, Bodies: bodies(b)}, "loop b ; c ; end loop ;"},
		{"while a < 10 loop a; end loop;", api.Stmt{Op: api.SWhile, Exprs: exs("a < 10"), Bodies: bodies(a)}, "while a < 10 loop a ; end loop ;"},
		{"for i in 1..a loop a; end loop;", between("i", "1", "a", false, a...), "for i in 1 .. a loop a ; end loop ;"},
		{"for i in reverse a.b..c(d) loop end loop;", between("i", "a.b", "c(d)", true), "for i in reverse a . b .. c ( d ) loop end loop ;"},
		{"for i in reverse (select a from t)..(select b from t) loop end loop;", between("i", "(select a from t)", "(select b from t)", true), "for i in reverse ( select a from t ) .. ( select b from t ) loop end loop ;"},
		{"for i in ((select a from t)+1)..-1 loop end loop;", between("i", "(select a from t) + 1", "-1", false), "for i in ( ( select a from t ) + 1 ) .. ( - 1 ) loop end loop ;"},
		{"for i in (a)..(not b) loop end loop;", between("i", "a", "not b", false), "for i in a .. ( not b ) loop end loop ;"},
		{"for i in (a is null)..(b in (1, 2)) loop end loop;", between("i", "a is null", "b in (1, 2)", false), "for i in ( a is null ) .. ( b in ( 1 , 2 ) ) loop end loop ;"},
		{"for r in (select * from t) loop b; c; end loop;", forRows("r", "select * from t", b...), "for r in ( select * from t ) loop b ; c ; end loop ;"},
		{"for r in (" + q + " for update) loop end loop;", forRows("r", q+" for update"), "for r in ( select distinct a as x , b from t y , u as of 7 where f group by g having h order by i desc for update ) loop end loop ;"},
		{"for r in c loop c; end loop;", forCursor("r", "c", c...), "for r in c loop c ; end loop ;"},
		{"select a, b bulk collect into c, d(1), :new.e from t y, u as of 7 where f group by g having h order by i desc for update;", selected("select a, b from t y, u as of 7 where f group by g having h order by i desc for update", true, "c", "d(1)", ":new.e"), "select a , b bulk collect into c , d ( 1 ) , : new . e from t y , u as of 7 where f group by g having h order by i desc for update ;"},
		{"select distinct a + 1 as x, b into c from t;", selected("select distinct a + 1 as x, b from t", false, "c"), "select distinct a + 1 as x , b into c from t ;"},
	}
}

// declSamples returns declarations of all kinds.
func declSamples() []sample[api.Decl] {
	return []sample[api.Decl]{
		{"a int;", variable("a", api.VInt), "a int ;"},
		{"others text := 'x' || b;", variable("others", api.VText, "'x' || b"), "others text := 'x' || b ;"},
		{"a bool := not b or c;", variable("a", api.VBool, "not b or c"), "a bool := ( not b ) or c ;"},
		{"a array of int;", array("a", api.VInt), "a array of int ;"},
		{"a array of text;", array("a", api.VText), "a array of text ;"},
		{"a array of bool;", array("a", api.VBool), "a array of bool ;"},
		{"cursor c is select a from t;", declared("c", "select a from t"), "cursor c is select a from t ;"},
		{"cursor c is select*from u.t where a order by b for update;", declared("c", "select * from u.t where a order by b for update"), "cursor c is select * from u . t where a order by b for update ;"},
		{"e exception;", exception("e"), "e exception ;"},
	}
}

// handlerSamples returns handlers.
func handlerSamples() []sample[api.Handler] {
	return []sample[api.Handler]{
		{"when zero_divide then null;", handler("zero_divide", only(api.SNull)), "when zero_divide then null ;"},
		{"when a or others or a then", handler("a.others.a"), "when a or others or a then"},
		{"when others then a; begin b; end;", handler("others", call("a"), inner(api.Block{Body: row(call("b"))})), "when others then a ; begin b ; end ;"},
	}
}

// blockSamples returns blocks with each of the samples of what stands in them, and with all together.
func blockSamples() []sample[api.Block] {
	all := sample[api.Block]{"declare ", api.Block{}, "declare"}
	l := []sample[api.Block]{{"begin end;", api.Block{}, "begin end ;"}, {richText, rich(), richText}}
	for _, x := range declSamples() {
		l = append(l, sample[api.Block]{"declare " + x.text + "begin end;", api.Block{Decls: []api.Decl{x.tree}}, "declare " + x.want + " begin end ;"})
		all.text, all.tree.Decls, all.want = all.text+x.text, append(all.tree.Decls, x.tree), all.want+" "+x.want
	}
	all.text, all.want = all.text+"begin ", all.want+" begin"
	for i, x := range stmtSamples() {
		l = append(l, sample[api.Block]{"begin " + x.text + "end;", api.Block{Body: row(x.tree)}, "begin " + x.want + " end ;"})
		if i%2 == 0 {
			all.text, all.tree.Body, all.want = all.text+x.text, append(all.tree.Body, x.tree), all.want+" "+x.want
		}
	}
	all.text, all.want = all.text+"exception", all.want+" exception"
	for _, x := range handlerSamples() {
		l = append(l, sample[api.Block]{"begin exception " + x.text + " end;", api.Block{When: []api.Handler{x.tree}}, "begin exception " + x.want + " end ;"})
		all.text, all.tree.When, all.want = all.text+" "+x.text, append(all.tree.When, x.tree), all.want+" "+x.want
	}
	all.text, all.want = all.text+" end;", all.want+" end ;"
	return append(l, all)
}
