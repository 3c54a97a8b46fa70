package value_test

import (
	"slices"
	"strings"
	"testing"

	"justiciar/api"
	"justiciar/value"
)

// must returns a result; an error ends the test.
func must(t *testing.T, v api.Value, e api.Errno) api.Value {
	t.Helper()
	if e != api.OK {
		t.Fatal("error", e)
	}
	return v
}

// P1.10
func TestThreeTruths(t *testing.T) {
	not := func(a api.Value) api.Value { v, e := value.Unary("not", a); return must(t, v, e) }
	join := func(op string, a, b api.Value) api.Value { v, e := value.Binary(op, a, b); return must(t, v, e) }
	for _, a := range list(no, yes, null) {
		if not(not(a)) != a {
			t.Error("not not", a)
		}
		for _, b := range list(no, yes, null) {
			if not(join("and", a, b)) != join("or", not(a), not(b)) || not(join("or", a, b)) != join("and", not(a), not(b)) {
				t.Error("not of and, or:", a, b)
			}
			if join("and", a, b) != join("and", b, a) || join("or", a, b) != join("or", b, a) {
				t.Error("the order of the operands matters:", a, b)
			}
		}
	}
}

// P1.11
func TestJustOneComparison(t *testing.T) {
	for _, a := range samples() {
		for _, b := range samples() {
			if a != null && b != null && a.Kind != b.Kind {
				continue
			}
			trues := 0
			for _, op := range []string{"<", "=", ">", "<=", ">=", "<>"} {
				v, e := value.Binary(op, a, b)
				if (a == null || b == null) && (v != null || e != api.OK) {
					t.Error(a, op, b, v, e)
				}
				if len(op) == 1 && v == yes {
					trues++
				}
			}
			if a != null && b != null && trues != 1 {
				t.Error(a, b, "comparisons that are true:", trues)
			}
		}
	}
}

// P1.12
func TestArithmeticLaws(t *testing.T) {
	for _, a := range samples() {
		for _, b := range samples() {
			if a.Kind != api.VInt || b.Kind != api.VInt {
				continue
			}
			for _, op := range []string{"+", "*"} {
				v, e := value.Binary(op, a, b)
				w, f := value.Binary(op, b, a)
				expect(t, op, v, e, w, f)
			}
			minus, _ := value.Unary("-", b)
			v, e := value.Binary("-", a, b)
			w, f := value.Binary("+", a, minus)
			expect(t, "-", v, e, w, f)
			if b == num(0) {
				continue
			}
			over, e := value.Binary("/", a, b)
			must(t, over, e)
			left, e := value.Binary("mod", a, b)
			must(t, left, e)
			if over.N*b.N+left.N != a.N || left.N < 0 && a.N > 0 || left.N > 0 && a.N < 0 || max(left.N, -left.N) >= max(b.N, -b.N) {
				t.Error(a, b, over, left)
			}
		}
	}
}

// P1.13
func TestTotalOrder(t *testing.T) {
	for _, kind := range []api.Kind{api.VInt, api.VText, api.VBool} {
		l := slices.DeleteFunc(samples(), func(v api.Value) bool { return v != null && v.Kind != kind })
		order := func(a, b api.Value) int {
			n, e := value.Order(a, b)
			if e != api.OK {
				t.Fatal(a, b, e)
			}
			return n
		}
		for _, a := range l {
			for _, b := range l {
				if order(a, b) != -order(b, a) || (order(a, b) == 0) != (a == b) {
					t.Error(a, b, order(a, b), order(b, a))
				}
				if less, _ := value.Binary("<", a, b); a != null && b != null && (order(a, b) < 0) != (less == yes) {
					t.Error(a, b, "not as <")
				}
				for _, c := range l {
					if order(a, b) <= 0 && order(b, c) <= 0 && order(a, c) > 0 {
						t.Error(a, b, c)
					}
				}
			}
		}
	}
}

// together returns what an aggregate of two lists is by those of each.
func together(t *testing.T, name string, a, b api.Value) api.Value {
	switch {
	case a == null:
		return b
	case b == null:
		return a
	}
	var v api.Value
	var e api.Errno
	switch name {
	case "min":
		v, e = value.Call("least", list(a, b))
	case "max":
		v, e = value.Call("greatest", list(a, b))
	default:
		v, e = value.Binary("+", a, b)
	}
	return must(t, v, e)
}

// P1.14
func TestAggregateLaws(t *testing.T) {
	all := lists(list(null, num(3), num(-3), num(1<<30)), 4)
	for _, name := range []string{"count", "sum", "min", "max"} {
		of := func(l []api.Value) api.Value { v, e := value.Aggregate(name, l); return must(t, v, e) }
		for _, l := range all {
			whole := of(l)
			back := slices.Clone(l)
			slices.Reverse(back)
			turned := append(slices.Clone(l[1:]), l[0])
			if of(back) != whole || of(turned) != whole {
				t.Error(name, l, "the order matters")
			}
			for i := range len(l) + 1 {
				if together(t, name, of(l[:i]), of(l[i:])) != whole {
					t.Error(name, l, i)
				}
			}
		}
	}
	for _, l := range lists(list(str("b"), str("a"), null, str("ab")), 3) {
		for _, name := range []string{"min", "max"} {
			a, e := value.Aggregate(name, l)
			b, f := value.Aggregate(name, list(l[2], l[0], l[1]))
			expect(t, name, a, e, b, f)
		}
	}
}

// P1.15
func TestRoundTrip(t *testing.T) {
	all := samples()
	for _, s := range words("' a-%", 4) {
		all = append(all, str(s))
	}
	for _, v := range all {
		s, e := value.Text(v)
		if e != api.OK {
			t.Fatal(v, e)
		}
		got, e := value.Parse(s)
		expect(t, s, got, e, v, api.OK)
	}
}

// P1.16
func TestLikeLaws(t *testing.T) {
	like := func(s, pattern string) {
		t.Helper()
		got, e := value.Binary("like", str(s), str(pattern))
		expect(t, s+" like "+pattern, got, e, yes, api.OK)
	}
	all := append(words("a.*\\", 3), longest(), longest()[1:], "it's", printable())
	for _, s := range all {
		like(s, "%")
		if !strings.ContainsAny(s, "%_") {
			like(s, s)
		}
		for _, more := range []string{"", "b", "%", "_", "bcd"} {
			if !strings.ContainsAny(s, "%_") && len(s+more) <= api.MaxText && len(s) < api.MaxText {
				like(s+more, s+"%")
			}
		}
	}
}
