package expr_test

import (
	"fmt"
	"slices"
	"strings"
	"testing"

	"justiciar/api"
	"justiciar/expr"
)

const longName = "mmmmmmmmmmmmmmmmmmmmmmmmmmmmmmm"

// badNames returns strings that are no names.
func badNames() []string {
	return []string{"", "A", "1", "_a", "a b", "a.b", "select", "count", "sql", "new", "ä", longName}
}

// spoilt returns an expression with fields that it must not have.
func spoilt(e api.Expr) map[string]api.Expr {
	all := map[string]api.Expr{}
	spoil := func(what string, change func(e *api.Expr)) {
		x := e
		change(&x)
		all[what] = x
	}
	spoil("Op 0", func(e *api.Expr) { e.Op = 0 })
	spoil("Op -1", func(e *api.Expr) { e.Op = -1 })
	spoil("Op 16", func(e *api.Expr) { e.Op = 16 })
	spoil("ECol", func(e *api.Expr) { e.Op = api.ECol })
	spoil("EBind", func(e *api.Expr) { e.Op = api.EBind })
	for _, n := range []int{1, -1, 1 << 62} {
		spoil(fmt.Sprint("A ", n), func(e *api.Expr) { e.A = n })
		spoil(fmt.Sprint("B ", n), func(e *api.Expr) { e.B = n })
		spoil(fmt.Sprint("C ", n), func(e *api.Expr) { e.C = n })
	}
	for _, n := range []int{-1, api.MaxInt + 1, -1 << 63, 1<<63 - 1} {
		spoil(fmt.Sprint("Line ", n), func(e *api.Expr) { e.Line = n })
		spoil(fmt.Sprint("Col ", n), func(e *api.Expr) { e.Col = n })
	}
	if e.Op != api.EConst {
		spoil("a Val", func(e *api.Expr) { e.Val = api.Value{Kind: api.VInt} })
		spoil("a Val's string", func(e *api.Expr) { e.Val = api.Value{Text: "a"} })
	}
	if e.Op != api.ENull && e.Op != api.EIn && e.Op != api.EBetween {
		spoil("Not", func(e *api.Expr) { e.Not = true })
	}
	if e.Op != api.EIn && e.Op != api.ECase && e.Op != api.ECall {
		spoil("a Kid more", func(e *api.Expr) { e.Kids = append(slices.Clone(e.Kids), name("a")) })
	}
	if len(e.Kids) > 0 && e.Op != api.ECall {
		spoil("no Kids", func(e *api.Expr) { e.Kids = nil })
	}
	spoil("a query more", func(e *api.Expr) { e.Query = append(slices.Clone(e.Query), plain()) })
	if len(e.Path) == 0 {
		spoil("a Path", func(e *api.Expr) { e.Path = path("a") })
		spoil("an empty name", func(e *api.Expr) { e.Path = path("") })
	} else {
		spoil("no Path", func(e *api.Expr) { e.Path = nil })
		spoil("a longer Path", func(e *api.Expr) { e.Path = path("a.b.c.d") })
		for _, s := range badNames() {
			if (e.Op != api.ECall || s != "count") && (e.Op != api.EMark || s != "sql") {
				spoil("the Path "+s, func(e *api.Expr) { e.Path = []string{s} })
			}
			spoil("the Path a."+s, func(e *api.Expr) { e.Path = []string{"a", s} })
			spoil("the Path a.b."+s, func(e *api.Expr) { e.Path = []string{"a", "b", s} })
			spoil("the Path new."+s, func(e *api.Expr) { e.Path = []string{"new", s} })
		}
	}
	for _, s := range []string{"?", "::", "new", "=>", "- ", "found ", "NOT", "open"} {
		spoil("the Text "+s, func(e *api.Expr) { e.Text = s })
	}
	if e.Text == "" {
		for _, s := range []string{"-", "+", "not", "found"} {
			spoil("the Text "+s, func(e *api.Expr) { e.Text = s })
		}
	} else {
		spoil("no Text", func(e *api.Expr) { e.Text = "" })
	}
	return all
}

// spoiltQuery returns queries within expressions that are not valid, but for the expressions in them.
func spoiltQuery() map[string]api.Query {
	all := map[string]api.Query{"an empty one": {}}
	spoil := func(what string, change func(q *api.Query)) {
		x := rich()
		change(&x)
		all[what] = x
	}
	spoil("Lock", func(q *api.Query) { q.Lock = true })
	spoil("Star and a list", func(q *api.Query) { q.Star = true })
	spoil("no Star and no list", func(q *api.Query) { q.List = nil })
	spoil("too many items", func(q *api.Query) { q.List = slices.Repeat(items(name("a")), api.MaxCols+1) })
	spoil("no sources", func(q *api.Query) { q.From = nil })
	spoil("too many sources", func(q *api.Query) { q.From = slices.Repeat(from("t"), 21) })
	spoil("two AsOf", func(q *api.Query) { q.From = []api.Source{{Path: path("t"), AsOf: list(num(1), num(1))}} })
	spoil("two Where", func(q *api.Query) { q.Where = list(num(1), num(1)) })
	spoil("two Having", func(q *api.Query) { q.Having = list(num(1), num(1)) })
	spoil("a long Group", func(q *api.Query) { q.Group = slices.Repeat(list(name("a")), 11) })
	spoil("a long Order", func(q *api.Query) { q.Order = slices.Repeat(orders(name("a")), 11) })
	for _, n := range []int{-1, api.MaxInt + 1, -1 << 63, 1<<63 - 1} {
		spoil(fmt.Sprint("Line ", n), func(q *api.Query) { q.Line = n })
		spoil(fmt.Sprint("Col ", n), func(q *api.Query) { q.Col = n })
		spoil(fmt.Sprint("a source's Line ", n), func(q *api.Query) { q.From = []api.Source{{Path: path("t"), Line: n}} })
		spoil(fmt.Sprint("a source's Col ", n), func(q *api.Query) { q.From = []api.Source{{Path: path("t"), Col: n}} })
	}
	spoil("a source without a path", func(q *api.Query) { q.From = []api.Source{{As: "x"}} })
	spoil("a source with a long path", func(q *api.Query) { q.From = from("a.b.c") })
	for _, s := range badNames() {
		spoil("a source "+s, func(q *api.Query) { q.From = []api.Source{{Path: []string{s}}} })
		spoil("a source a."+s, func(q *api.Query) { q.From = []api.Source{{Path: []string{"a", s}}} })
		if s != "" {
			spoil("an item as "+s, func(q *api.Query) { q.List = []api.Item{{Expr: name("a"), As: s}} })
			spoil("a source with the name "+s, func(q *api.Query) { q.From = []api.Source{{Path: path("t"), As: s}} })
		}
	}
	return all
}

// around returns an expression in all places in which one may stand.
func around(e api.Expr) []api.Expr {
	where := plain()
	where.Where = list(e)
	group := plain()
	group.Group = list(name("a"), e)
	having := plain()
	having.Having = list(e)
	order := plain()
	order.Order = orders(name("a"), e)
	asOf := plain()
	asOf.From = []api.Source{{Path: path("t")}, {Path: path("t"), AsOf: list(e)}}
	return []api.Expr{
		e, un("-", e), bin("+", e, name("a")), bin("+", name("a"), e), of(api.ENull, e), of(api.EIn, name("a"), name("b"), e), of(api.EBetween, name("a"), name("b"), e), of(api.ECase, name("a"), e), call("f", name("a"), e),
		sub(api.Query{List: items(name("a"), e), From: from("t")}), exists(where), sub(group), sub(having), sub(order), sub(asOf), un("not", exists(asOf)),
	}
}

// wrong returns expressions that are not valid, by what is wrong with them.
func wrong() map[string]api.Expr {
	all := map[string]api.Expr{
		"nothing": {}, "a negative integer": num(-1), "an integer too great": num(api.MaxInt + 1), "the least integer": num(-1 << 63), "bool 2": flag(2), "bool -1": flag(-1), "a string too long": str(strings.Repeat("x", api.MaxText+1)), "a string with byte 10": str("\n"), "kind 4": constant(api.Value{Kind: 4}), "null with N": constant(api.Value{N: 1}),
		"an operation of one between two": bin("not", name("a"), name("b")), "an operation between two of one": un("+", name("a")), "and of one": un("and", name("a")), "between as an operation": bin("between", name("a"), name("b")), "is as an operation": bin("is", name("a"), null()), "a sign in brackets": bin("( + )", name("a"), name("b")),
		"one Kid of +": {Op: api.EBinary, Text: "+", Kids: list(name("a"))}, "one Kid of in": of(api.EIn, name("a")), "two Kids of between": of(api.EBetween, name("a"), name("b")), "four Kids of between": of(api.EBetween, name("a"), name("b"), name("c"), name("d")), "one Kid of case": of(api.ECase, name("a")), "no Kid of case": of(api.ECase), "a Kid of count(*)": of(api.EStar, name("a")),
		"colon of one name": ofRow("new"), "colon of names": ofRow("a.b"), "colon of three": ofRow("new.a.b"), "colon of new.old": ofRow("new.old"), "colon of :new": ofRow(":new.a"), "new without a colon": name("new.a"), "a dot in a name": {Op: api.EName, Path: []string{"a.b"}}, "another Text of a name": {Op: api.EName, Path: path("new.a"), Text: "."},
		"count as a name": name("count"), "count in a path": call("count.a", name("a")), "count behind a name": call("a.count", name("a")), "count twice": call("count.count"), "a word that is called": call("sum.select"), "new that is called": call("new"),
		"sql as a name": name("sql"), "sql in a path": mark("sql.a", "found"), "a mark of two names": mark("a.b", "found"), "a mark of count": mark("count", "found"), "a mark of new": mark("new", "found"), "a mark of a name": mark("a", "a"), "a mark of a number": mark("a", "rowcounts"),
		"a query of none": {Op: api.EQuery}, "exists of none": {Op: api.EExists}, "not exists": not(exists(plain())), "not of a query": not(sub(plain())),
		"a query as a name": {Op: api.EName, Path: path("a"), Query: []api.Query{plain()}},
	}
	for _, x := range samples() {
		for what, e := range spoilt(x.expr) {
			all[x.text+" with "+what] = e
		}
	}
	for what, q := range spoiltQuery() {
		all["a query with "+what] = sub(q)
		all["exists of a query with "+what] = exists(q)
		lower := plain()
		lower.Where = list(exists(q))
		all["a query in a query with "+what] = sub(lower)
	}
	return all
}

// P3.3
func TestValid(t *testing.T) {
	for _, x := range samples() {
		for i, e := range around(x.expr) {
			if !expr.Valid(e) {
				t.Error("not valid:", i, x.text)
			}
		}
	}
	e := parse(t, "a in (1, (select b from t))")
	e.Line, e.Col, e.Kids[2].Query[0].Line, e.Kids[2].Query[0].From[0].Col = api.MaxInt, 0, 0, api.MaxInt
	if !expr.Valid(e) {
		t.Error("positions at the limits")
	}
	e.Kids, e.Query, e.Path = append([]api.Expr{}, e.Kids...), []api.Query{}, []string{}
	if !expr.Valid(e) {
		t.Error("empty lists are no nil ones")
	}
	for _, n := range []int{1, 2, 20} {
		full := api.Query{List: slices.Repeat(items(name("a")), n), From: slices.Repeat(from("u.t"), n), Group: slices.Repeat(list(name("a")), (n+1)/2), Order: slices.Repeat(orders(name("a")), (n+1)/2)}
		if !expr.Valid(sub(full)) {
			t.Error("a query with lists of", n)
		}
	}
	longest := strings.Repeat("m", api.MaxName)
	if !expr.Valid(name(longest+"."+longest+"."+longest)) || !expr.Valid(str(strings.Repeat("x", api.MaxText))) || !expr.Valid(num(api.MaxInt)) {
		t.Error("what is as long as it may be")
	}
}

// P3.3: what is not valid is not valid, wherever it stands.
func TestNotValid(t *testing.T) {
	for what, e := range wrong() {
		for i, x := range around(e) {
			if expr.Valid(x) {
				t.Errorf("valid: %s (%d)", what, i)
			}
		}
	}
}
