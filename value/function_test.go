package value_test

import (
	"slices"
	"strconv"
	"strings"
	"testing"

	"justiciar/api"
	"justiciar/value"
)

// shape is the arguments of a function: kinds, or, without, two of one kind.
type shape struct {
	name  string
	kinds []api.Kind
}

func functions() []shape {
	n, s := []api.Kind{api.VInt}, []api.Kind{api.VText}
	return []shape{{"abs", n}, {"sign", n}, {"length", s}, {"upper", s}, {"lower", s}, {"substr", []api.Kind{api.VText, api.VInt, api.VInt}}, {"to_text", n}, {"to_int", s}, {"nvl", nil}, {"nullif", nil}, {"least", nil}, {"greatest", nil}}
}

func (f shape) count() int {
	if f.kinds == nil {
		return 2
	}
	return len(f.kinds)
}

func (f shape) fits(l []api.Value) bool {
	if f.kinds == nil {
		return l[0] == null || l[1] == null || l[0].Kind == l[1].Kind
	}
	for i, v := range l {
		if v != null && v.Kind != f.kinds[i] {
			return false
		}
	}
	return true
}

// lists returns all lists of n of some values.
func lists(from []api.Value, n int) [][]api.Value {
	if n == 0 {
		return [][]api.Value{nil}
	}
	var out [][]api.Value
	for _, l := range lists(from, n-1) {
		for _, v := range from {
			out = append(out, append(slices.Clone(l), v))
		}
	}
	return out
}

// P1.4
func TestBuiltin(t *testing.T) {
	for _, f := range functions() {
		if !value.Builtin(f.name) {
			t.Error("no function", f.name)
		}
	}
	for _, name := range []string{"", "count", "sum", "min", "max", "mod", "like", "ABS", "abs ", "substring", "not", "-", "in", "put"} {
		if value.Builtin(name) {
			t.Error("a function", name)
		}
	}
}

// P1.4: the order of the errors, ErrArg, ErrName, ErrCount, ErrType.
func TestCallErrors(t *testing.T) {
	some := list(null, num(1), str("1"), yes)
	for _, f := range functions() {
		for n := range 5 {
			for _, l := range lists(some, n) {
				got, e := value.Call(f.name, l)
				switch {
				case n != f.count():
					expect(t, f.name, got, e, null, api.ErrCount)
				case !f.fits(l):
					expect(t, f.name, got, e, null, api.ErrType)
				case e != api.OK:
					t.Error(f.name, l, e)
				}
			}
		}
	}
	for what, v := range invalid() {
		for _, name := range []string{"abs", "length", "substr", "nvl", "nullif", "least", "greatest", "none"} {
			for _, l := range [][]api.Value{{v}, {v, num(1)}, {num(1), v}, {yes, num(1), v}, {null, null, null, null, v}} {
				got, e := value.Call(name, l)
				expect(t, name+" of "+what, got, e, null, api.ErrArg)
			}
		}
	}
	for _, name := range []string{"", "none", "ABS", "count", "sum"} {
		for _, l := range [][]api.Value{nil, {num(1)}, {str("a"), yes}} {
			got, e := value.Call(name, l)
			expect(t, name, got, e, null, api.ErrName)
		}
	}
}

// P1.4: null as an argument.
func TestCallNull(t *testing.T) {
	for _, f := range functions() {
		if f.name == "nvl" || f.name == "nullif" {
			continue
		}
		for _, l := range lists(list(null, num(1), str("1")), f.count()) {
			if f.fits(l) && slices.Contains(l, null) {
				got, e := value.Call(f.name, l)
				expect(t, f.name, got, e, null, api.OK)
			}
		}
	}
	got, e := value.Call("substr", list(null, str("a"), num(1)))
	expect(t, "a type beside null", got, e, null, api.ErrType)
}

// P1.4
func TestCall(t *testing.T) {
	for _, c := range []struct {
		name string
		l    []api.Value
		want api.Value
		e    api.Errno
	}{
		{"abs", list(num(-5)), num(5), api.OK}, {"abs", list(num(5)), num(5), api.OK}, {"abs", list(num(0)), num(0), api.OK}, {"abs", list(num(-most)), num(most), api.OK},
		{"sign", list(num(-5)), num(-1), api.OK}, {"sign", list(num(0)), num(0), api.OK}, {"sign", list(num(most)), num(1), api.OK}, {"sign", list(num(-most)), num(-1), api.OK},
		{"length", list(str("")), num(0), api.OK}, {"length", list(str("it's")), num(4), api.OK}, {"length", list(str(longest())), num(api.MaxText), api.OK},
		{"upper", list(str("aZ z-1@[`{")), str("AZ Z-1@[`{"), api.OK}, {"lower", list(str("Az Z-1@[`{")), str("az z-1@[`{"), api.OK}, {"upper", list(str("")), str(""), api.OK},
		{"upper", list(str(printable())), str(strings.ToUpper(printable())), api.OK}, {"lower", list(str(printable())), str(strings.ToLower(printable())), api.OK},
		{"to_text", list(num(0)), str("0"), api.OK}, {"to_text", list(num(-12)), str("-12"), api.OK}, {"to_text", list(num(most)), str("1099511627776"), api.OK}, {"to_text", list(num(-most)), str("-1099511627776"), api.OK},
		{"nvl", list(null, num(1)), num(1), api.OK}, {"nvl", list(num(2), num(1)), num(2), api.OK}, {"nvl", list(num(2), null), num(2), api.OK}, {"nvl", list(null, null), null, api.OK}, {"nvl", list(str(""), str("a")), str(""), api.OK}, {"nvl", list(no, yes), no, api.OK}, {"nvl", list(num(1), str("a")), null, api.ErrType},
		{"nullif", list(num(1), num(1)), null, api.OK}, {"nullif", list(num(1), num(2)), num(1), api.OK}, {"nullif", list(str("a"), str("a")), null, api.OK}, {"nullif", list(str("a"), str("A")), str("a"), api.OK}, {"nullif", list(yes, no), yes, api.OK}, {"nullif", list(no, no), null, api.OK},
		{"nullif", list(num(1), null), num(1), api.OK}, {"nullif", list(null, num(1)), null, api.OK}, {"nullif", list(null, null), null, api.OK}, {"nullif", list(num(1), yes), null, api.ErrType},
		{"least", list(num(2), num(-3)), num(-3), api.OK}, {"least", list(num(-3), num(2)), num(-3), api.OK}, {"least", list(str("b"), str("a")), str("a"), api.OK}, {"least", list(str("ab"), str("a")), str("a"), api.OK}, {"least", list(yes, no), no, api.OK}, {"least", list(num(2), num(2)), num(2), api.OK},
		{"greatest", list(num(2), num(-3)), num(2), api.OK}, {"greatest", list(num(-3), num(2)), num(2), api.OK}, {"greatest", list(str("B"), str("a")), str("a"), api.OK}, {"greatest", list(yes, no), yes, api.OK}, {"greatest", list(no, no), no, api.OK},
	} {
		got, e := value.Call(c.name, c.l)
		expect(t, c.name, got, e, c.want, c.e)
	}
}

// P1.4
func TestSubstr(t *testing.T) {
	for _, c := range []struct {
		s          string
		from, many int
		want       string
	}{
		{"abcd", 2, 2, "bc"}, {"abcd", 1, 4, "abcd"}, {"abcd", 1, 1, "a"}, {"abcd", 4, 1, "d"}, {"abcd", 3, 9, "cd"}, {"abcd", 5, 1, ""}, {"abcd", 99, 1, ""},
		{"abcd", 0, 2, "ab"}, {"abcd", -1, 2, "ab"}, {"abcd", -most, 1, "a"}, {"abcd", 2, 0, ""}, {"abcd", 2, -1, ""}, {"abcd", -5, -5, ""}, {"abcd", 1, -most, ""},
		{"abcd", 2, most, "bcd"}, {"abcd", most, most, ""}, {"abcd", -most, most, "abcd"}, {"", 1, 1, ""}, {"", 0, 0, ""}, {"it's", 3, 2, "'s"},
	} {
		got, e := value.Call("substr", list(str(c.s), num(c.from), num(c.many)))
		expect(t, "substr of "+c.s+" "+strconv.Itoa(c.from)+" "+strconv.Itoa(c.many), got, e, str(c.want), api.OK)
	}
	s := "abcde"
	for from := -3; from < 9; from++ {
		for many := -3; many < 9; many++ {
			want := ""
			for at := max(from, 1); at < max(from, 1)+many && at <= len(s); at++ {
				want += s[at-1 : at]
			}
			got, e := value.Call("substr", list(str(s), num(from), num(many)))
			expect(t, "substr", got, e, str(want), api.OK)
		}
	}
}

// P1.4
func TestToInt(t *testing.T) {
	for _, n := range []int{0, 1, -1, 10, -10, 99, most - 1, most, -most} {
		got, e := value.Call("to_int", list(str(strconv.Itoa(n))))
		expect(t, strconv.Itoa(n), got, e, num(n), api.OK)
	}
	for _, s := range []string{"", "-", "+1", "-0", "00", "01", "-01", " 1", "1 ", "1.0", "1e3", "0x1", "1_000", "a", "'1'", "--1", "null", "true", "1099511627777", "-1099511627777", "9223372036854775808", "99999999999999999999", strings.Repeat("9", api.MaxText), strings.Repeat("0", api.MaxText)} {
		got, e := value.Call("to_int", list(str(s)))
		expect(t, "to_int of "+s, got, e, null, api.ErrRange)
	}
}

// P1.4: arguments stay as they are.
func TestCallKeepsArguments(t *testing.T) {
	l := list(num(2), num(1))
	for _, name := range []string{"least", "greatest", "nvl", "nullif"} {
		value.Call(name, l)
	}
	value.Aggregate("max", l)
	value.In(l[0], l)
	if l[0] != num(2) || l[1] != num(1) {
		t.Error(l)
	}
}
