package expr_test

import (
	"slices"
	"strings"
	"testing"

	"justiciar/api"
	"justiciar/expr"
)

// expectLimits looks at a string with what is valid, and at one with what exceeds a limit, at positions of their own.
func expectLimits(t *testing.T, valid, more string, code api.Errno) {
	t.Helper()
	if e := parse(t, valid); !expr.Valid(e) {
		t.Errorf("%.200q is not valid", valid)
	}
	expectFault(t, more, code, "", 1, 1)
	expectFault(t, "\n--\n  "+more+" -- a", code, "", 3, 3)
	expectFault(t, "( "+more+")", code, "", 1, 1)
}

// P3.1, P3.3: 2,000 nodes: expressions, queries and sources.
func TestMaxNodes(t *testing.T) {
	expectLimits(t, "f("+many(666, "a+b")+",c)", "f("+many(666, "a+b")+",-c)", api.ErrLimit)
	expectLimits(t, "a in ("+many(666, "a+b")+")", "a in("+many(666, "a+b")+",c)", api.ErrLimit)
	expectLimits(t, "case"+strings.Repeat(" when a then b+c", 499)+" else d+e end", "case"+strings.Repeat(" when a then b+c", 499)+" else d+(-e) end", api.ErrLimit)
	expectLimits(t, "f("+many(499, "(select a from t)")+",b+c)", "f("+many(499, "(select a from t)")+",b+c,d)", api.ErrLimit)
	for part, nodes := range map[string]int{"(select a from t, u as of b)": 6, "exists(select a from t where b)": 5, "not exists(select * from t)": 4, "(select a from t where b group by c having d order by e,f,g)": 10, "case when a then b end": 3, ":new.a": 1, "a%found": 1, "count(*)": 1, "a between b and c": 4} {
		begin := "f(" + many(120, part) + "," + many((1999-120*nodes)/3, "a+b") + strings.Repeat(",c", (1999-120*nodes)%3)
		expectLimits(t, begin+")", begin+",d)", api.ErrLimit)
	}
}

// P3.1, P3.3: 40 levels, of all ways to be within another one.
func TestMaxLevels(t *testing.T) {
	nots := func(n int) string { return strings.Repeat("not ", n) }
	for inner, levels := range map[string]int{
		"a": 1, "1": 1, "-a": 2, "a=b": 2, "a is null": 2, "a in (b)": 2, "a in (b, -c)": 3, "a between b and c": 2, "a between b and -c": 3, "a not like b": 3, "case when a then b else -c end": 3, "f(a)": 2, "f()": 1, "count(*)": 1, "sql%found": 1, ":new.a": 1, "a+b+c+d": 4,
		"(select a from t)": 3, "exists(select a from t)": 3, "(select * from t)": 3, "(select -a from t)": 4, "(select a from t as of 1)": 4, "(select a from t as of b+1)": 5, "(select a from t where b=c)": 4, "(select a from t group by -b)": 4, "(select a from t having -b)": 4, "(select a from t order by -b)": 4, "(select (select a from t) from t)": 5, "(select a from t as of (select a from t))": 6,
		"((((a))))": 1,
	} {
		expectLimits(t, nots(api.MaxNest-levels)+inner, nots(api.MaxNest-levels+1)+inner, api.ErrDeep)
	}
	expectLimits(t, "a"+strings.Repeat("+a", api.MaxNest-1), "a"+strings.Repeat("+a", api.MaxNest), api.ErrDeep)
	expectLimits(t, strings.Repeat("f(", api.MaxNest-1)+"a"+strings.Repeat(")", api.MaxNest-1), strings.Repeat("f(", api.MaxNest)+"a"+strings.Repeat(")", api.MaxNest), api.ErrDeep)
	expectFault(t, strings.Repeat("-", 1)+strings.Repeat(" -", api.MaxTokens-2)+" a", api.ErrLimit, "", 1, 1)
}

// P3.1: round brackets are no levels.
func TestBracketsAreNoLevels(t *testing.T) {
	n := (api.MaxTokens - 1) / 2
	e := parse(t, strings.Repeat("(", n)+"a"+strings.Repeat(")", n))
	if !expr.Same(e, name("a")) || e.Col != n+1 {
		t.Error(short(e))
	}
	expectFault(t, strings.Repeat("(", api.MaxTokens), api.ErrEnd, "", 1, api.MaxTokens+1)
}

// P3.1, P3.3: lists of queries.
func TestLongLists(t *testing.T) {
	for before, most := range map[string]int{"select ": api.MaxCols, "select a from ": 20, "select a from t group by ": 10, "select a from t order by ": 10} {
		behind := ")"
		if before == "select " {
			behind = " from t)"
		}
		for _, outer := range []string{"(", "exists (", "f(1, not exists (select a from t where (", "(select a from t as of ("} {
			closed := strings.Repeat(")", strings.Count(outer, "(")-1)
			if strings.Contains(outer, "as of") {
				closed = " x" + closed
			}
			expectLimits(t, outer+before+numbered(most)+behind+closed, outer+before+numbered(most+1)+behind+closed, api.ErrLimit)
		}
	}
}

// P3.1: a case of which nothing comes is of the form, but it is not valid.
func TestEmptyCases(t *testing.T) {
	for _, s := range []string{"case end", "case else a end", "case else 1 end + 2", "f(a, case end)", "(select case end from t)"} {
		expectFault(t, "  "+s, api.ErrLimit, "", 1, 3)
	}
	expectFault(t, "case end,", api.ErrSyntax, ",", 1, 9)
	expectFault(t, "case else a end +", api.ErrEnd, "", 1, 18)
}

// P3.1: what is not of the form is found ahead of what is not valid, and too many nodes ahead of too many levels.
func TestOrderOfFaults(t *testing.T) {
	deep := strings.Repeat("not ", api.MaxNest) + "a"
	long := "f(" + many(667, "a+b") + ")"
	expectFault(t, deep+" ,", api.ErrSyntax, ",", 1, len(deep)+2)
	expectFault(t, deep+" or", api.ErrEnd, "", 1, len(deep)+4)
	expectFault(t, long+" ,", api.ErrSyntax, ",", 1, len(long)+2)
	expectFault(t, long+" or", api.ErrEnd, "", 1, len(long)+4)
	expectFault(t, deep+" or "+long, api.ErrLimit, "", 1, 1)
	expectFault(t, long+" or "+deep, api.ErrLimit, "", 1, 1)
	expectFault(t, deep+" or exists(select "+numbered(api.MaxCols+1)+" from t)", api.ErrLimit, "", 1, 1)
}

// P3.2: as many tokens as a string may have.
func TestTextOfManyTokens(t *testing.T) {
	if s := textOf(t, parse(t, "f("+many(1999, "a")+")")); len(strings.Fields(s)) != api.MaxTokens {
		t.Error("the longest has another length:", len(s))
	}
	for what, e := range map[string]api.Expr{
		"an even number": call("f", append(slices.Repeat(list(name("a")), 1998), name("a.b"))...),
		"one more":       call("f", append(slices.Repeat(list(name("a")), 1989), un("-", name("a")), name("a.b.c"), name("a.b.c"), name("a.b.c"))...),
		"long paths":     call("f", slices.Repeat(list(name("a.b.c")), 667)...),
		"in a query":     exists(api.Query{Star: true, From: from("t"), Where: list(call("f", slices.Repeat(list(name("a")), 1996)...))}),
	} {
		if s, code := expr.Text(e); !expr.Valid(e) || s != "" || code != api.ErrLimit {
			t.Errorf("%s: %d bytes, error %d", what, len(s), code)
		}
	}
}

// P3.2: as many bytes as a string may have.
func TestTextOfManyBytes(t *testing.T) {
	full := slices.Repeat(list(str(strings.Repeat("x", api.MaxText))), 97)
	e := call("f", append(full, str(strings.Repeat("y", 107)))...)
	if s := textOf(t, e); len(s) != api.MaxSource {
		t.Error("the longest has another length:", len(s))
	}
	for _, last := range []api.Expr{str(strings.Repeat("y", 108)), str(strings.Repeat("'", 54)), str(strings.Repeat("y", api.MaxText))} {
		if s, code := expr.Text(call("f", append(full, last)...)); s != "" || code != api.ErrLimit {
			t.Error(len(s), code)
		}
	}
}

// P3.3: what is not valid is found so, however much of it there is.
func TestBoundless(t *testing.T) {
	twice := name("a")
	for range 100 {
		twice = bin("+", twice, twice)
	}
	circle := []api.Expr{un("-", name("a"))}
	circle[0].Kids = circle
	wide := call("f", slices.Repeat(list(name("a")), 1<<20)...)
	deep := name("a")
	for range 1 << 16 {
		deep = un("-", deep)
	}
	for what, e := range map[string]api.Expr{"parts that are there twice": twice, "a circle": circle[0], "a long list": wide, "many levels": deep} {
		if expr.Valid(e) {
			t.Error(what, "is valid")
		}
		if s, code := expr.Text(e); s != "" || code != api.ErrArg {
			t.Error(what, len(s), code)
		}
		if l, code := expr.Names(e); len(l) != 0 || code != api.ErrArg {
			t.Error(what, len(l), code)
		}
	}
	if !expr.Same(deep, deep) || expr.Same(deep, un("-", deep)) || !expr.Same(wide, wide) {
		t.Error("what is great is not the same")
	}
}
