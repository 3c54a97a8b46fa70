package expr_test

import (
	"fmt"
	"strconv"
	"strings"
	"testing"

	"justiciar/api"
	"justiciar/expr"
)

func path(s string) []string { return strings.Split(s, ".") }

func name(s string) api.Expr { return api.Expr{Op: api.EName, Path: path(s)} }

// ofRow returns a name behind a colon.
func ofRow(s string) api.Expr { return api.Expr{Op: api.EName, Path: path(s), Text: ":"} }

func constant(v api.Value) api.Expr { return api.Expr{Op: api.EConst, Val: v} }

func num(n int) api.Expr { return constant(api.Value{Kind: api.VInt, N: n}) }

func str(s string) api.Expr { return constant(api.Value{Kind: api.VText, Text: s}) }

func flag(n int) api.Expr { return constant(api.Value{Kind: api.VBool, N: n}) }

func null() api.Expr { return constant(api.Value{}) }

func un(op string, a api.Expr) api.Expr { return api.Expr{Op: api.EUnary, Text: op, Kids: list(a)} }

func bin(op string, a, b api.Expr) api.Expr {
	return api.Expr{Op: api.EBinary, Text: op, Kids: list(a, b)}
}

func of(op api.ExprOp, kids ...api.Expr) api.Expr { return api.Expr{Op: op, Kids: kids} }

func not(e api.Expr) api.Expr {
	e.Not = true
	return e
}

func call(s string, kids ...api.Expr) api.Expr {
	return api.Expr{Op: api.ECall, Path: path(s), Kids: kids}
}

func mark(s, what string) api.Expr { return api.Expr{Op: api.EMark, Path: path(s), Text: what} }

func sub(q api.Query) api.Expr { return api.Expr{Op: api.EQuery, Query: []api.Query{q}} }

func exists(q api.Query) api.Expr { return api.Expr{Op: api.EExists, Query: []api.Query{q}} }

func list(l ...api.Expr) []api.Expr { return l }

func items(l ...api.Expr) []api.Item {
	var all []api.Item
	for _, e := range l {
		all = append(all, api.Item{Expr: e})
	}
	return all
}

func orders(l ...api.Expr) []api.Order {
	var all []api.Order
	for _, e := range l {
		all = append(all, api.Order{Expr: e})
	}
	return all
}

func from(l ...string) []api.Source {
	var all []api.Source
	for _, s := range l {
		all = append(all, api.Source{Path: path(s)})
	}
	return all
}

// plain returns the query select a from t.
func plain() api.Query { return api.Query{List: items(name("a")), From: from("t")} }

// rich returns a query that has all that one may have.
func rich() api.Query {
	return api.Query{
		Distinct: true,
		List:     []api.Item{{Expr: bin("+", name("a"), num(1)), As: "b"}, {Expr: name("x.c")}},
		From:     []api.Source{{Path: path("t"), As: "x"}, {Path: path("u.v"), AsOf: list(bin("-", num(7), name("d"))), As: "y"}, {Path: path("w"), AsOf: list(name("e"))}},
		Where:    list(bin("=", name("x.a"), ofRow("new.a"))),
		Group:    list(name("f"), of(api.ENull, name("g"))),
		Having:   list(bin(">", of(api.EStar), num(2))),
		Order:    []api.Order{{Expr: name("h"), Desc: true}, {Expr: un("-", name("i"))}},
	}
}

const richText = "select distinct a + 1 as b , x . c from t x , u . v as of ( 7 - d ) y , w as of e where x . a = : new . a group by f , g is null having count ( * ) > 2 order by h desc , - i"

func operations() []string {
	return strings.Fields("+ - * / mod || = <> < <= > >= and or like")
}

// sample is a string, its expression without positions, and the expression's string.
type sample struct {
	text string
	expr api.Expr
	want string
}

// samples returns expressions of all kinds.
func samples() []sample {
	l := []sample{
		{"7", num(7), "7"}, {"0", num(0), "0"}, {"007", num(7), "7"}, {"1099511627776", num(api.MaxInt), "1099511627776"},
		{"''", str(""), "''"}, {"'it''s'", str("it's"), "'it''s'"}, {"'select'", str("select"), "'select'"}, {"'('", str("("), "'('"},
		{"true", flag(1), "true"}, {"false", flag(0), "false"}, {"null", null(), "null"},
		{"a", name("a"), "a"}, {"a.b", name("a.b"), "a . b"}, {"a.b.c", name("a.b.c"), "a . b . c"}, {"others", name("others"), "others"}, {"sum", name("sum"), "sum"},
		{":new.a", ofRow("new.a"), ": new . a"}, {":old.b1_", ofRow("old.b1_"), ": old . b1_"},
		{"-a", un("-", name("a")), "- a"}, {"- -1", un("-", un("-", num(1))), "- ( - 1 )"}, {"not a", un("not", name("a")), "not a"}, {"not not a", un("not", un("not", name("a"))), "not ( not a )"}, {"not -a", un("not", un("-", name("a"))), "not ( - a )"}, {"-(not a)", un("-", un("not", name("a"))), "- ( not a )"},
		{"a is null", of(api.ENull, name("a")), "a is null"}, {"a is not null", not(of(api.ENull, name("a"))), "a is not null"}, {"(a is null) is not null", not(of(api.ENull, of(api.ENull, name("a")))), "( a is null ) is not null"}, {"-a is null", of(api.ENull, un("-", name("a"))), "( - a ) is null"},
		{"a in(1)", of(api.EIn, name("a"), num(1)), "a in ( 1 )"}, {"a not in (1, b or c, not d)", not(of(api.EIn, name("a"), num(1), bin("or", name("b"), name("c")), un("not", name("d")))), "a not in ( 1 , b or c , not d )"}, {"a+1 in (a in (b))", of(api.EIn, bin("+", name("a"), num(1)), of(api.EIn, name("a"), name("b"))), "( a + 1 ) in ( a in ( b ) )"}, {"a in ((select a from t))", of(api.EIn, name("a"), sub(plain())), "a in ( ( select a from t ) )"},
		{"a between 1 and 2", of(api.EBetween, name("a"), num(1), num(2)), "a between 1 and 2"}, {"a not between -b and c+1", not(of(api.EBetween, name("a"), un("-", name("b")), bin("+", name("c"), num(1)))), "a not between ( - b ) and ( c + 1 )"}, {"(a between b and c) between (d or e) and (f is null)", of(api.EBetween, of(api.EBetween, name("a"), name("b"), name("c")), bin("or", name("d"), name("e")), of(api.ENull, name("f"))), "( a between b and c ) between ( d or e ) and ( f is null )"},
		{"a not like b", un("not", bin("like", name("a"), name("b"))), "not ( a like b )"}, {"a like b||'%'", bin("like", name("a"), bin("||", name("b"), str("%"))), "a like ( b || '%' )"},
		{"case when a then b end", of(api.ECase, name("a"), name("b")), "case when a then b end"}, {"case when a then b else c end", of(api.ECase, name("a"), name("b"), name("c")), "case when a then b else c end"}, {"case when a or b then not c when d is null then -e else a in (f) end", of(api.ECase, bin("or", name("a"), name("b")), un("not", name("c")), of(api.ENull, name("d")), un("-", name("e")), of(api.EIn, name("a"), name("f"))), "case when a or b then not c when d is null then - e else a in ( f ) end"}, {"case when a then b end + 1", bin("+", of(api.ECase, name("a"), name("b")), num(1)), "case when a then b end + 1"},
		{"f()", call("f"), "f ( )"}, {"f(a)", call("f", name("a")), "f ( a )"}, {"a.f(1, 'b')", call("a.f", num(1), str("b")), "a . f ( 1 , 'b' )"}, {"a.b.f(c or d, -e, g(h))", call("a.b.f", bin("or", name("c"), name("d")), un("-", name("e")), call("g", name("h"))), "a . b . f ( c or d , - e , g ( h ) )"},
		{"count(a)", call("count", name("a")), "count ( a )"}, {"count(a, b)", call("count", name("a"), name("b")), "count ( a , b )"}, {"count()", call("count"), "count ( )"}, {"count(count(*))", call("count", of(api.EStar)), "count ( count ( * ) )"},
		{"count(*)", of(api.EStar), "count ( * )"}, {"a%found", mark("a", "found"), "a % found"}, {"a%notfound", mark("a", "notfound"), "a % notfound"}, {"a%isopen", mark("a", "isopen"), "a % isopen"}, {"sql%rowcount", mark("sql", "rowcount"), "sql % rowcount"}, {"a%rowcount*2", bin("*", mark("a", "rowcount"), num(2)), "a % rowcount * 2"},
		{"(select a from t)", sub(plain()), "( select a from t )"}, {"((select a from t)) + 1", bin("+", sub(plain()), num(1)), "( select a from t ) + 1"}, {"(select*from u.t)", sub(api.Query{Star: true, From: from("u.t")}), "( select * from u . t )"}, {"(select distinct * from t x, t as of 1)", sub(api.Query{Distinct: true, Star: true, From: []api.Source{{Path: path("t"), As: "x"}, {Path: path("t"), AsOf: list(num(1))}}}), "( select distinct * from t x , t as of 1 )"},
		{"exists(select a from t)", exists(plain()), "exists ( select a from t )"}, {"not exists (select a from t)", un("not", exists(plain())), "not exists ( select a from t )"}, {"exists (select a from t where exists (select a from t)) is null", of(api.ENull, exists(api.Query{List: items(name("a")), From: from("t"), Where: list(exists(plain()))})), "exists ( select a from t where exists ( select a from t ) ) is null"},
		{"(" + richText + ")", sub(rich()), "( " + richText + " )"}, {"f(1, exists(" + richText + "))", call("f", num(1), exists(rich())), "f ( 1 , exists ( " + richText + " ) )"},
		{"a + b * 2 > c and not d is null", bin("and", bin(">", bin("+", name("a"), bin("*", name("b"), num(2))), name("c")), un("not", of(api.ENull, name("d")))), "( ( a + ( b * 2 ) ) > c ) and ( not ( d is null ) )"},
	}
	for _, op := range operations() {
		l = append(l, sample{"a " + op + " 1", bin(op, name("a"), num(1)), "a " + op + " 1"},
			sample{"(a or b) " + op + " (c is null)", bin(op, bin("or", name("a"), name("b")), of(api.ENull, name("c"))), "( a or b ) " + op + " ( c is null )"})
	}
	return l
}

// counted returns n strings that a counter makes, with commas between.
func counted(n int, text func(i int) string) string {
	var l []string
	for i := range n {
		l = append(l, text(i))
	}
	return strings.Join(l, ",")
}

// many returns a string n times, with commas between.
func many(n int, s string) string { return counted(n, func(int) string { return s }) }

// numbered returns n names, with commas between.
func numbered(n int) string {
	return counted(n, func(i int) string { return "a" + strconv.Itoa(i) })
}

// short returns what a message says of an expression.
func short(e api.Expr) string { return fmt.Sprintf("%.300s", fmt.Sprint(e)) }

// parse returns the expression of a string that has to have one.
func parse(t *testing.T, s string) api.Expr {
	t.Helper()
	e, f := expr.Parse(s)
	if f != (api.Fault{}) {
		t.Fatalf("%.200q: %v", s, f)
	}
	return e
}

// textOf returns the string of an expression that has to have one.
func textOf(t *testing.T, e api.Expr) string {
	t.Helper()
	s, code := expr.Text(e)
	if code != api.OK {
		t.Fatalf("%s: error %d", short(e), code)
	}
	return s
}

func expectFault(t *testing.T, s string, code api.Errno, name string, line, col int) {
	t.Helper()
	e, f := expr.Parse(s)
	if want := (api.Fault{Code: code, Name: name, Line: line, Col: col}); f != want || !expr.Same(e, api.Expr{}) || e.Line != 0 || e.Col != 0 {
		t.Errorf("%.200q: %s %v, want %v", s, short(e), f, want)
	}
}
