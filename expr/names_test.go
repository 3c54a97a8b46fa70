package expr_test

import (
	"strings"
	"testing"

	"justiciar/api"
	"justiciar/expr"
)

func namesOf(t *testing.T, e api.Expr) string {
	t.Helper()
	l, code := expr.Names(e)
	if code != api.OK {
		t.Errorf("%s: error %d", short(e), code)
	}
	var all []string
	for _, p := range l {
		all = append(all, strings.Join(p, "."))
	}
	return strings.Join(all, " ")
}

// P3.4
func TestNames(t *testing.T) {
	for s, want := range map[string]string{
		"1": "", "null": "", "a": "a", "a.b.c": "a.b.c", ":new.a": "", ":old.a + a": "a", "-a": "a",
		"b + a": "b a", "a + b * c - a": "a b c", "a + a.b + a.b.c + b + a.b": "a a.b a.b.c b", "a.b + b.a + a + b": "a.b b.a a b", "ab.c + a.bc + abc + a.b.c": "ab.c a.bc abc a.b.c",
		"c is null and b in (a, c, d) or e between f and g": "c b a d e f g", "not like1 like b": "like1 b", "case when c then b when a then d else e end": "c b a d e",
		"f(a)": "a", "a.f(b, g(c), f)": "b c f", "count(b)": "b", "count(*)": "", "a % found": "", "sql % found or b": "b",
		"(select * from t)": "", "(select b as x, a from t y, u.v z where c)": "b a c", "exists (select a from t) and b": "a b", "x + (select a from b as of c d, e as of f + g where h group by i, j having k order by l desc, m) + n": "x a c f g h i j k l m n",
		"(select a from t where b in ((select c.d from u where e = (select a from t as of z))))": "a b c.d e z",
		"a + b * 2 > c and not d is null": "a b c d",
	} {
		e := parse(t, s)
		if got := namesOf(t, e); got != want {
			t.Errorf("%s: %s, want %s", s, got, want)
		}
		if got := namesOf(t, bare(e)); got != want {
			t.Errorf("%s without positions: %s, want %s", s, got, want)
		}
	}
	if got, want := namesOf(t, parse(t, "f("+numbered(1999)+")")), strings.ReplaceAll(numbered(1999), ",", " "); got != want {
		t.Errorf("many names: %.300s", got)
	}
}

// P3.4: what is not valid has no names.
func TestNamesErrors(t *testing.T) {
	for what, e := range wrong() {
		if l, code := expr.Names(e); len(l) != 0 || code != api.ErrArg {
			t.Errorf("%s: %v error %d", what, l, code)
		}
	}
}
