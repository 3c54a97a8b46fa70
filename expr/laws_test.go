package expr_test

import (
	"math/rand/v2"
	"reflect"
	"slices"
	"strings"
	"testing"

	"justiciar/api"
	"justiciar/expr"
)

// maker makes expressions by chance, the same ones in each run.
type maker struct{ *rand.Rand }

func newMaker() maker { return maker{rand.New(rand.NewPCG(3, 5))} }

func (m maker) word(l ...string) string { return l[m.IntN(len(l))] }

func (m maker) name() string { return m.word("a", "b1", "c_", "others", "sum", "zero_divide") }

func (m maker) path(most int) []string {
	l := []string{m.name()}
	for len(l) < most && m.IntN(2) == 0 {
		l = append(l, m.name())
	}
	return l
}

func (m maker) exprs(least, most, depth int) []api.Expr {
	var l []api.Expr
	for range least + m.IntN(most-least+1) {
		l = append(l, m.expr(depth))
	}
	return l
}

func (m maker) expr(depth int) api.Expr {
	if depth == 0 {
		return m.leaf()
	}
	depth--
	switch m.IntN(12) {
	case 0, 1:
		return api.Expr{Op: api.EUnary, Text: m.word("-", "not"), Kids: m.exprs(1, 1, depth)}
	case 2, 3, 4:
		return api.Expr{Op: api.EBinary, Text: m.word(operations()...), Kids: m.exprs(2, 2, depth)}
	case 5:
		return api.Expr{Op: api.ENull, Not: m.IntN(2) == 0, Kids: m.exprs(1, 1, depth)}
	case 6:
		return api.Expr{Op: api.EIn, Not: m.IntN(2) == 0, Kids: m.exprs(2, 4, depth)}
	case 7:
		return api.Expr{Op: api.EBetween, Not: m.IntN(2) == 0, Kids: m.exprs(3, 3, depth)}
	case 8:
		return of(api.ECase, m.exprs(2, 5, depth)...)
	case 9:
		return api.Expr{Op: api.ECall, Path: m.path(3), Kids: m.exprs(0, 3, depth)}
	case 10:
		return call("count", m.exprs(0, 2, depth)...)
	}
	return api.Expr{Op: api.EQuery + api.ExprOp(m.IntN(2)), Query: []api.Query{m.query(depth)}}
}

func (m maker) leaf() api.Expr {
	switch m.IntN(6) {
	case 0:
		return num(m.IntN(api.MaxInt + 1))
	case 1:
		return str(m.word("", "it's", "''", "-- ", "select", "%"))
	case 2:
		return m.constant()
	case 3:
		return ofRow(m.word("new", "old") + "." + m.name())
	case 4:
		return mark(m.word(m.name(), "sql"), m.word("found", "notfound", "isopen", "rowcount"))
	}
	return api.Expr{Op: api.EName, Path: m.path(3)}
}

func (m maker) constant() api.Expr {
	return []api.Expr{flag(0), flag(1), null(), of(api.EStar)}[m.IntN(4)]
}

func (m maker) query(depth int) api.Query {
	q := api.Query{Distinct: m.IntN(2) == 0, Star: m.IntN(3) == 0, Where: m.exprs(0, 1, depth), Group: m.exprs(0, 2, depth), Having: m.exprs(0, 1, depth)}
	for _, e := range m.exprs(1, 3, depth) {
		if !q.Star {
			q.List = append(q.List, api.Item{Expr: e, As: m.word("", m.name())})
		}
	}
	for range 1 + m.IntN(3) {
		q.From = append(q.From, api.Source{Path: m.path(2), AsOf: m.exprs(0, 1, depth), As: m.word("", m.name())})
	}
	for _, e := range m.exprs(0, 2, depth) {
		q.Order = append(q.Order, api.Order{Expr: e, Desc: m.IntN(2) == 0})
	}
	return q
}

// P3.5: of expressions.
func TestRoundTrip(t *testing.T) {
	check := func(e api.Expr) bool {
		s, code := expr.Text(e)
		if code == api.ErrLimit {
			return false
		}
		got, f := expr.Parse(s)
		if code != api.OK || f != (api.Fault{}) || !expr.Same(got, e) || !reflect.DeepEqual(bare(got), bare(e)) {
			t.Fatalf("%s: error %d, %.300q, %v %s", short(e), code, s, f, short(got))
		}
		return true
	}
	for _, x := range samples() {
		for _, e := range around(x.expr) {
			check(e)
		}
	}
	m, read := newMaker(), 0
	for i := range 4000 {
		if e := m.expr(i % 6); expr.Valid(e) && check(e) {
			read++
		}
	}
	if read < 3000 {
		t.Error("too few were read:", read)
	}
}

// P3.5: of strings, however their tokens stand.
func TestRoundTripOfStrings(t *testing.T) {
	for _, x := range samples() {
		e := parse(t, x.text)
		if got := parse(t, textOf(t, e)); !expr.Same(got, e) {
			t.Errorf("%s: %s, want %s", x.text, short(got), short(e))
		}
		spread := "--\n " + strings.ReplaceAll(x.want, " ", " -- '\n\t ")
		if got := parse(t, spread); !expr.Same(got, e) {
			t.Errorf("%q: %s, want %s", spread, short(got), short(e))
		}
	}
}

// P3.6: of a whole expression, and of all Kids and expressions of queries.
func TestBrackets(t *testing.T) {
	for _, x := range samples() {
		for _, s := range []string{"(" + x.text + ")", "((" + x.text + "))", "( ( (" + x.want + " ) ))"} {
			if got := parse(t, s); !expr.Same(got, x.expr) {
				t.Errorf("%s: %s, want %s", s, short(got), short(x.expr))
			}
		}
		s := "(" + x.text + ")"
		for i, e := range around(x.expr) {
			frame := textOf(t, around(name("hole"))[i])
			filled := strings.ReplaceAll(frame, "hole", s)
			if got := parse(t, filled); !expr.Same(got, e) {
				t.Errorf("%s: %s, want %s", filled, short(got), short(e))
			}
		}
	}
}

// P3.6: brackets move what is within them, and nothing else.
func TestBracketsAndPositions(t *testing.T) {
	for _, x := range samples() {
		a, b := parse(t, "\n "+x.want), parse(t, "\n("+x.want+")")
		if !reflect.DeepEqual(a, b) {
			t.Errorf("%s: %s, want %s", x.want, short(b), short(a))
		}
	}
}

// tightness returns how tightly an operation binds; those that bind alike have the same.
func tightness(op string) int {
	for i, l := range []string{"or", "and", "= <> < <= > >= like", "+ - ||", "* / mod"} {
		if slices.Contains(strings.Fields(l), op) {
			return i
		}
	}
	return -1
}

const comparison = 2

// P3.7: of two operations.
func TestBinding(t *testing.T) {
	a, b, c := name("a"), name("b"), name("c")
	for _, x := range operations() {
		for _, y := range operations() {
			s := "a " + x + " b " + y + " c"
			left, right := bin(y, bin(x, a, b), c), bin(x, a, bin(y, b, c))
			switch tx, ty := tightness(x), tightness(y); {
			case tx == comparison && ty == comparison:
				expectFault(t, s, api.ErrSyntax, y, 1, len("a "+x+" b ")+1)
			case tx >= ty:
				if e := parse(t, s); !expr.Same(e, left) {
					t.Errorf("%s: %s", s, short(e))
				}
			default:
				if e := parse(t, s); !expr.Same(e, right) {
					t.Errorf("%s: %s", s, short(e))
				}
			}
			if l, r := parse(t, "(a "+x+" b) "+y+" c"), parse(t, "a "+x+" (b "+y+" c)"); !expr.Same(l, left) || !expr.Same(r, right) {
				t.Errorf("%s in brackets: %s %s", s, short(l), short(r))
			}
		}
	}
}

// P3.7: of an operation and what stands before or behind an operand.
func TestBindingOfOthers(t *testing.T) {
	a, b, c, d := name("a"), name("b"), name("c"), name("d")
	for _, op := range operations() {
		expect := func(s string, want api.Expr) {
			t.Helper()
			if e := parse(t, s); !expr.Same(e, want) {
				t.Errorf("%s: %s, want %s", s, short(e), short(want))
			}
		}
		expect("- a "+op+" b", bin(op, un("-", a), b))
		expect("a "+op+" - b", bin(op, a, un("-", b)))
		if tightness(op) < comparison {
			expect("not a "+op+" b", bin(op, un("not", a), b))
			expect("a "+op+" not b", bin(op, a, un("not", b)))
			expect("a "+op+" b is null", bin(op, a, of(api.ENull, b)))
			expect("a is not null "+op+" b", bin(op, not(of(api.ENull, a)), b))
			expect("a "+op+" b in (c)", bin(op, a, of(api.EIn, b, c)))
			expect("a not in (b) "+op+" c", bin(op, not(of(api.EIn, a, b)), c))
			expect("a "+op+" b between c and d", bin(op, a, of(api.EBetween, b, c, d)))
			expect("a not between b and c "+op+" d", bin(op, not(of(api.EBetween, a, b, c)), d))
			continue
		}
		expect("not a "+op+" b", un("not", bin(op, a, b)))
		expectFault(t, "a "+op+" not b", api.ErrSyntax, "not", 1, len("a "+op+" ")+1)
		if tightness(op) == comparison {
			expectFault(t, "a "+op+" b is null", api.ErrSyntax, "is", 1, len("a "+op+" b ")+1)
			expectFault(t, "a is null "+op+" b", api.ErrSyntax, op, 1, len("a is null ")+1)
			continue
		}
		expect("a "+op+" b is null", of(api.ENull, bin(op, a, b)))
		expect("a "+op+" b in (c "+op+" d)", of(api.EIn, bin(op, a, b), bin(op, c, d)))
		expect("a between b "+op+" c and d "+op+" a", of(api.EBetween, a, bin(op, b, c), bin(op, d, a)))
		expect("a not like b "+op+" c", un("not", bin("like", a, bin(op, b, c))))
	}
}

// P3.1: what Parse, Text and Names return is theirs, and what they are given stays as it is.
func TestMemory(t *testing.T) {
	for _, x := range samples() {
		e := parse(t, x.text)
		before := movedExpr(e, func() int { return 1 })
		l, _ := expr.Names(e)
		for _, p := range l {
			clear(p)
		}
		first := textOf(t, e)
		expr.Valid(e)
		expr.Same(e, e)
		if after := movedExpr(e, func() int { return 1 }); !reflect.DeepEqual(before, after) || textOf(t, e) != first {
			t.Errorf("%s: it has become %s", x.text, short(after))
		}
		clear(e.Kids)
		clear(e.Path)
		clear(e.Query)
		if again := parse(t, x.text); !expr.Same(again, x.expr) {
			t.Errorf("%s: it is read as %s", x.text, short(again))
		}
	}
}
