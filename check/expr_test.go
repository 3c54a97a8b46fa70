package check_test

import (
	"testing"

	"justiciar/api"
)

// P10.1: the kinds of what names in expressions mean.
func TestNames(t *testing.T) {
	x := call{world(t), "u"}
	x.expectKind(t, api.VInt, "n", "a", "i", "r.x", "sqlcode", "nums.size", "li.size", "lo.size", "strs.size", "pack.n", "u.pack.n", "w.q", "u.w.f", "w.f",
		"seq.nextval", "seq.currval", "u.seq.nextval", "w.seq.currval")
	x.expectKind(t, api.VText, "str", "b", "r.y", "sqlname", "pack.str", "u.pack.str", "w.pack.n")
	x.expectKind(t, api.VBool, "yes", "c", "r.z")
	x.expectKind(t, api.VNull, "null", "r.nix")
}

// P10.1: the faults of names in expressions.
func TestNameFaults(t *testing.T) {
	x := call{world(t), "u"}
	x.expectExprs(t,
		expected{"^none", api.ErrName, "none"},
		expected{"1 + ^none", api.ErrName, "none"},
		expected{"^none.x", api.ErrName, "none.x"},
		expected{"^t.x", api.ErrName, "t.x"},
		expected{"^u.none", api.ErrName, "u.none"},
		expected{"^u.t.x", api.ErrName, "u.t.x"},
		expected{"^pack.none", api.ErrName, "pack.none"},
		expected{"^pack.secret", api.ErrName, "pack.secret"},
		expected{"^u.pack.hidden", api.ErrName, "u.pack.hidden"},
		expected{"^w.pack.str", api.ErrName, "w.pack.str"},
		expected{"^none.pack.n", api.ErrName, "none.pack.n"},
		expected{"^seq.value", api.ErrName, "seq.value"},
		expected{"^u.seq.lastval", api.ErrName, "u.seq.lastval"},
		expected{"^nextval", api.ErrName, "nextval"},
		expected{"^u", api.ErrName, "u"},
		expected{"^x", api.ErrName, "x"},
		expected{"^abs2", api.ErrName, "abs2"},
		expected{"^length", api.ErrName, "length"},
		expected{"^r.none", api.ErrName, "r.none"},
		expected{"^r.two", api.ErrTwice, "r.two"},
		expected{"^:new.x", api.ErrName, "new.x"},
		expected{"^:old.x", api.ErrName, "old.x"},
		expected{"^me", api.ErrKind, "me"},
		expected{"^r", api.ErrKind, "r"},
		expected{"^cur", api.ErrKind, "cur"},
		expected{"^e", api.ErrKind, "e"},
		expected{"^nums", api.ErrKind, "nums"},
		expected{"^li", api.ErrKind, "li"},
		expected{"^nums.x", api.ErrKind, "nums.x"},
		expected{"^n.size", api.ErrKind, "n.size"},
		expected{"^n.x", api.ErrKind, "n.x"},
		expected{"^i.x", api.ErrKind, "i.x"},
		expected{"^cur.x", api.ErrKind, "cur.x"},
		expected{"^e.x", api.ErrKind, "e.x"},
		expected{"^me.x", api.ErrKind, "me.x"},
		expected{"^r.x.y", api.ErrKind, "r.x.y"},
		expected{"^nums.size.x", api.ErrKind, "nums.size.x"},
		expected{"^n.pack.n", api.ErrKind, "n.pack.n"},
		expected{"^t", api.ErrKind, "t"},
		expected{"^u.t", api.ErrKind, "u.t"},
		expected{"^w.t", api.ErrKind, "w.t"},
		expected{"^v", api.ErrKind, "v"},
		expected{"^i1", api.ErrKind, "i1"},
		expected{"^seq", api.ErrKind, "seq"},
		expected{"^w.seq", api.ErrKind, "w.seq"},
		expected{"^run", api.ErrKind, "run"},
		expected{"^f", api.ErrKind, "f"},
		expected{"^g", api.ErrKind, "g"},
		expected{"^pack", api.ErrKind, "pack"},
		expected{"^u.pack", api.ErrKind, "u.pack"},
		expected{"^fires", api.ErrKind, "fires"},
		expected{"^pack.l", api.ErrKind, "pack.l"},
		expected{"^u.pack.l", api.ErrKind, "u.pack.l"},
		expected{"^pack.e", api.ErrKind, "pack.e"},
		expected{"^pack.go", api.ErrKind, "pack.go"},
		expected{"^u.pack.calc", api.ErrKind, "u.pack.calc"},
		expected{"^w.alone", api.ErrKind, "w.alone"},
	)
}

// P10.1: a name further in hides one further out, and sqlcode and sqlname what the catalog has.
func TestHidden(t *testing.T) {
	x := call{after(t, world(t), "u: create table sqlcode (a int);", "u: create package sqlname is n bool; end;"), "u"}
	x.expectKind(t, api.VInt, "sqlcode")
	x.expectKind(t, api.VText, "sqlname")
	x.expectKind(t, api.VBool, "sqlname.n")
	x.expectRight(t,
		"declare x int; begin declare x text; begin x := 'a'; end; x := 1; end;",
		"declare x int; begin for x in (select y from t) loop put(x.y); end loop; x := 1; end;",
		"begin for x in 1 .. 2 loop for x in (select y from t) loop declare x bool; begin x := true; end; put(x.y); end loop; put(x + 1); end loop; end;",
		"declare i text; begin for i in 1 .. 2 loop put(i + 1); end loop; i := 'x'; end;",
		"declare i int; begin for i in i .. i + 1 loop null; end loop; forall i in i .. i insert into t (x) values (i); end;",
		"declare sqlcode text; sqlname bool; begin sqlcode := 'x'; sqlname := true; end;",
		"create procedure q (x int) is x text; begin x := 'a'; end;",
		"create procedure q (q text) is begin put(q || 'x'); end;",
		"create procedure q is q text; begin q := 'x'; end;",
		"create function h (a int) return int is h array of int; begin h(1) := 2; return h(1); end;",
		"create procedure q is pack array of int; begin put(pack.size); end;",
		"create package q is x int; t text; procedure r (x text) is begin t := x || 'a'; declare t bool; begin t := true; end; end; procedure s is begin x := 1; end; end;",
	)
	x.expectAll(t,
		expected{"declare x int; begin declare x text; begin x := ^1; end; end;", api.ErrType, ""},
		expected{"declare x text; begin for x in 1 .. 2 loop ^x := 'a'; end loop; end;", api.ErrKind, "x"},
		expected{"declare x text; begin for x in (select y from t) loop ^x := 'a'; end loop; end;", api.ErrKind, "x"},
		expected{"declare sqlcode text; begin put(1 ^+ sqlcode); end;", api.ErrType, "+"},
		expected{"declare sqlcode exception; begin put(^sqlcode); end;", api.ErrKind, "sqlcode"},
		expected{"create procedure w.sqlname is begin put(^sqlname); end;", api.ErrKind, "sqlname"},
		expected{"declare u int; begin put(^u.pack.n); end;", api.ErrKind, "u.pack.n"},
		expected{"declare pack int; begin put(^pack.n); end;", api.ErrKind, "pack.n"},
		expected{"declare seq exception; begin put(^seq.nextval); end;", api.ErrKind, "seq.nextval"},
		expected{"create procedure seq1 (seq int) is begin put(^seq.nextval); end;", api.ErrKind, "seq.nextval"},
		expected{"create procedure w.u is begin put(^u.pack.n); end;", api.ErrKind, "u.pack.n"},
		expected{"create package q is t text; procedure r is t int; begin t := ^'x'; end; end;", api.ErrType, ""},
		expected{"create package q is f text; procedure r is begin put(^f(1)); end; end;", api.ErrKind, "f"},
		expected{"begin begin declare x int; begin x := 1; end; ^x := 1; end; end;", api.ErrName, "x"},
		expected{"begin for k in 1 .. 2 loop null; end loop; put(^k); end;", api.ErrName, "k"},
		expected{"begin for k in (select x from t) loop null; end loop; put(^k.x); end;", api.ErrName, "k.x"},
		expected{"begin forall k in 1 .. 2 insert into t (x) values (k); put(^k); end;", api.ErrName, "k"},
		expected{"begin for k in 1 .. ^k loop null; end loop; end;", api.ErrName, "k"},
		expected{"begin forall k in ^k .. 2 delete from t; end;", api.ErrName, "k"},
	)
	x.expectRight(t, "create procedure pro is pro text; begin pro := 'a'; end;")
	x.expect(t, "create procedure pro is begin put(^pro.x); end;", api.ErrKind, "pro.x")
}

// P10.1: paths are those of the program's owner, or of a block's user.
func TestSchema(t *testing.T) {
	c := world(t)
	u, w := call{c, "u"}, call{c, "w"}
	u.expectRight(t, "begin put(pack.n + 1); put(w.pack.n || 'x'); run; w.pack.go('x'); end;",
		"create procedure w.one is begin put(pack.n || 'x'); put(u.pack.n + 1); run(1); pack.go('x'); for r in (select d from t) loop null; end loop; end;")
	w.expectRight(t, "begin put(pack.n || 'x'); put(u.pack.n + 1); run(1); pack.go('x'); end;",
		"create procedure u.one is begin put(pack.n + 1); put(w.pack.n || 'x'); run; pack.go(1); for r in (select x from t) loop null; end loop; end;")
	w.expect(t, "begin for r in (select ^x from t) loop null; end loop; end;", api.ErrName, "x")
	w.expect(t, "begin ^seq.go; end;", api.ErrName, "seq.go")
	w.expect(t, "create procedure u.one is begin put(pack.n ^|| 'x'); end;", api.ErrType, "||")
}

// P10.1: the kinds of operations, functions, elements, calls and marks.
func TestKinds(t *testing.T) {
	x := call{world(t), "u"}
	x.expectKind(t, api.VInt, "1", "- n", "n + 1", "null + null", "n mod 2", "length(str)", "case when yes then 1 end", "case when yes then null else n end", "case when null then a when c then i end",
		"nums(1)", "li(n + 1)", "nums(nums(null))", "f(1)", "f(null)", "f(f(n))", "u.f(nums(1))", "cur%rowcount", "sql%rowcount", "w.pack.calc()", "total(nums)", "total(li)", "u.total(lb)", "nvl(n, r.nix)")
	x.expectKind(t, api.VText, "'x'", "str || 'x'", "to_text(n)", "strs(1)", "lo(r.nix)", "g()", "w.f(str)", "substr(str, 1, n)", "case when true then null when true then r.y end")
	x.expectKind(t, api.VBool, "true", "not yes", "n = 1", "str like 'x'", "n is null", "str in ('x', b)", "n between 1 and i", "r.nix = 1", "null = null", "yeses(1)", "pack.calc(n, str)", "u.pack.calc(1, 'x')",
		"w.only()", "cur%found", "cur%notfound", "cur%isopen", "sql%found", "sql%notfound", "sql%isopen", "r.nix in (r.nix, null)", "yes and r.nix or c")
	x.expectKind(t, api.VNull, "nvl(null, r.nix)", "case when yes then null end")
}

// P10.1: the faults of operations and marks, and of what cannot stand outside of queries.
func TestExprFaults(t *testing.T) {
	x := call{world(t), "u"}
	x.expectExprs(t,
		expected{"1 ^+ 'x'", api.ErrType, "+"},
		expected{"str ^|| n", api.ErrType, "||"},
		expected{"^- yes", api.ErrType, "-"},
		expected{"^not 1", api.ErrType, "not"},
		expected{"n ^= str", api.ErrType, "="},
		expected{"n in (1, r.nix, ^str, yes)", api.ErrType, "str"},
		expected{"n between ^'x' and yes", api.ErrType, ""},
		expected{"n between 1 and ^yes", api.ErrType, "yes"},
		expected{"case when 1 = 1 then 2 when ^n then 'x' end", api.ErrType, "n"},
		expected{"case when yes then 2 when c then ^str end", api.ErrType, "str"},
		expected{"case when yes then null when c then 1 else ^str end", api.ErrType, "str"},
		expected{"case when yes then 1 else 'x' || ^none end", api.ErrName, "none"},
		expected{"^none + (1 + 'x')", api.ErrName, "none"},
		expected{"(1 ^+ 'x') + none", api.ErrType, "+"},
		expected{"(^n.x is null) + none", api.ErrKind, "n.x"},
		expected{"^(select x from t)", api.ErrKind, ""},
		expected{"^(select zzz from none)", api.ErrKind, ""},
		expected{"^exists (select x from t)", api.ErrKind, ""},
		expected{"^count(*)", api.ErrKind, "count"},
		expected{"n in (1, ^(select x from t))", api.ErrKind, ""},
		expected{"f(^(select x from t))", api.ErrKind, ""},
		expected{"nums(^count(*))", api.ErrKind, "count"},
		expected{"^count(n)", api.ErrName, "count"},
		expected{"^sum(n)", api.ErrName, "sum"},
		expected{"^max(none)", api.ErrName, "max"},
		expected{"^none%found", api.ErrName, "none"},
		expected{"^n%found", api.ErrKind, "n"},
		expected{"^r%rowcount", api.ErrKind, "r"},
		expected{"^e%isopen", api.ErrKind, "e"},
		expected{"^me%notfound", api.ErrKind, "me"},
		expected{"^i%found", api.ErrKind, "i"},
		expected{"^t%found", api.ErrKind, "t"},
		expected{"^sqlcode%found", api.ErrKind, "sqlcode"},
		expected{"1 ^+ cur%found", api.ErrType, "+"},
		expected{"'x' ^|| cur%rowcount", api.ErrType, "||"},
	)
}

// P10.1: what is called, elements, and the order of their faults.
func TestCallFaults(t *testing.T) {
	x := call{world(t), "u"}
	x.expectExprs(t,
		expected{"^none(1)", api.ErrName, "none"},
		expected{"^none(zzz)", api.ErrName, "none"},
		expected{"^u.none(1)", api.ErrName, "u.none"},
		expected{"^pack.none(1)", api.ErrName, "pack.none"},
		expected{"^pack.secret()", api.ErrName, "pack.secret"},
		expected{"^u.pack.secret()", api.ErrName, "u.pack.secret"},
		expected{"^u.none.f(1)", api.ErrName, "u.none.f"},
		expected{"^u.t.x(1)", api.ErrName, "u.t.x"},
		expected{"^put(1)", api.ErrKind, "put"},
		expected{"^n(1)", api.ErrKind, "n"},
		expected{"^i(1)", api.ErrKind, "i"},
		expected{"^r(1)", api.ErrKind, "r"},
		expected{"^cur(1)", api.ErrKind, "cur"},
		expected{"^e(1)", api.ErrKind, "e"},
		expected{"^me(1, str, c, li, lo, lb)", api.ErrKind, "me"},
		expected{"^sqlcode(1)", api.ErrKind, "sqlcode"},
		expected{"^n.f(1)", api.ErrKind, "n.f"},
		expected{"^r.x(1)", api.ErrKind, "r.x"},
		expected{"^nums.size()", api.ErrKind, "nums.size"},
		expected{"^run()", api.ErrKind, "run"},
		expected{"^t(1)", api.ErrKind, "t"},
		expected{"^u.t(1)", api.ErrKind, "u.t"},
		expected{"^u.seq(1)", api.ErrKind, "u.seq"},
		expected{"^pack(1)", api.ErrKind, "pack"},
		expected{"^pack.n(1)", api.ErrKind, "pack.n"},
		expected{"^pack.l(1)", api.ErrKind, "pack.l"},
		expected{"^pack.e(1)", api.ErrKind, "pack.e"},
		expected{"^pack.go(1)", api.ErrKind, "pack.go"},
		expected{"^u.pack.go(1)", api.ErrKind, "u.pack.go"},
		expected{"^u.pack.l(1)", api.ErrKind, "u.pack.l"},
		expected{"^seq.nextval(1)", api.ErrKind, "seq.nextval"},
		expected{"^w.run(1)", api.ErrKind, "w.run"},
		expected{"^w.alone()", api.ErrKind, "w.alone"},
		expected{"^gives(n)", api.ErrKind, "gives"},
		expected{"^gives()", api.ErrKind, "gives"},
		expected{"^both(zzz)", api.ErrKind, "both"},
		expected{"^f()", api.ErrCount, "f"},
		expected{"^f(zzz, 'x')", api.ErrCount, "f"},
		expected{"^g(1)", api.ErrCount, "g"},
		expected{"^u.pack.calc(zzz)", api.ErrCount, "u.pack.calc"},
		expected{"f(^'x')", api.ErrType, ""},
		expected{"f(^r.y)", api.ErrType, "r.y"},
		expected{"f(^zzz)", api.ErrName, "zzz"},
		expected{"f(^nums)", api.ErrKind, "nums"},
		expected{"w.f(^true)", api.ErrType, ""},
		expected{"pack.calc(^'x', zzz)", api.ErrType, ""},
		expected{"pack.calc(^zzz, 1)", api.ErrName, "zzz"},
		expected{"pack.calc(f(1), ^2)", api.ErrType, ""},
		expected{"^abs(str, str)", api.ErrCount, "abs"},
		expected{"^abs('x')", api.ErrType, "abs"},
		expected{"abs(^zzz, 1)", api.ErrName, "zzz"},
		expected{"^nvl(1, 'x')", api.ErrType, "nvl"},
		expected{"nvl(1, ^zzz, 1)", api.ErrName, "zzz"},
		expected{"nvl(^nums, 1)", api.ErrKind, "nums"},
		expected{"^nums()", api.ErrCount, "nums"},
		expected{"^nums(1, zzz)", api.ErrCount, "nums"},
		expected{"nums(^'x')", api.ErrType, ""},
		expected{"nums(^zzz)", api.ErrName, "zzz"},
		expected{"nums(^nums)", api.ErrKind, "nums"},
		expected{"nums(^strs(1))", api.ErrType, "strs"},
	)
	x.expectRight(t, "begin put(u.abs('x', 'y')); end;", "create procedure q is put int; begin put := 1; end;",
		"declare abs array of text; begin put(abs(1) || 'x'); end;", "create function w.abs (a bool) return bool is begin return abs(abs(true)); end;")
	x.expectAll(t,
		expected{"declare abs int; begin put(^abs(1)); end;", api.ErrKind, "abs"},
		expected{"create procedure q is put int; begin ^put(1); end;", api.ErrKind, "put"},
		expected{"create package q is procedure put (a int) is begin null; end; procedure r is begin ^put; end; end;", api.ErrCount, "put"},
		expected{"create procedure w.put is begin ^put(1); end;", api.ErrCount, "put"},
		expected{"create function w.abs (a bool) return bool is begin return abs(^1); end;", api.ErrType, ""},
		expected{"begin put(^w.only(1)); end;", api.ErrCount, "w.only"},
		expected{"begin put(w.f(^1)); end;", api.ErrType, ""},
		expected{"begin ^put(1, zzz); end;", api.ErrCount, "put"},
		expected{"begin ^put; end;", api.ErrCount, "put"},
		expected{"begin put(^zzz); end;", api.ErrName, "zzz"},
	)
}
