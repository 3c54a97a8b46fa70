package value_test

import (
	"testing"

	"justiciar/api"
	"justiciar/value"
)

// P1.5
func TestIsAggregate(t *testing.T) {
	for _, name := range []string{"count", "sum", "min", "max"} {
		if !value.IsAggregate(name) {
			t.Error("no aggregate", name)
		}
	}
	for _, name := range []string{"", "avg", "COUNT", "count ", "least", "abs", "*"} {
		if value.IsAggregate(name) {
			t.Error("an aggregate", name)
		}
	}
}

// P1.5
func TestAggregate(t *testing.T) {
	for _, c := range []struct {
		name string
		l    []api.Value
		want api.Value
		e    api.Errno
	}{
		{"count", nil, num(0), api.OK}, {"sum", nil, null, api.OK}, {"min", nil, null, api.OK}, {"max", nil, null, api.OK},
		{"count", list(null, null), num(0), api.OK}, {"sum", list(null), null, api.OK}, {"min", list(null, null), null, api.OK}, {"max", list(null), null, api.OK},
		{"count", list(num(1), null, num(1)), num(2), api.OK}, {"count", list(num(1), str("a"), yes, null), num(3), api.OK}, {"count", list(no, num(0), str("")), num(3), api.OK},
		{"sum", list(num(1), null, num(2)), num(3), api.OK}, {"sum", list(num(5), num(-5)), num(0), api.OK}, {"sum", list(num(7)), num(7), api.OK},
		{"sum", list(str("1")), null, api.ErrType}, {"sum", list(num(1), yes), null, api.ErrType}, {"sum", list(null, str("")), null, api.ErrType},
		{"min", list(num(2), null, num(-3), num(5)), num(-3), api.OK}, {"max", list(num(2), null, num(-3), num(5)), num(5), api.OK}, {"max", list(num(-2), num(-3)), num(-2), api.OK}, {"min", list(num(0), num(4)), num(0), api.OK},
		{"min", list(str("b"), str("a"), str("ab")), str("a"), api.OK}, {"max", list(str("b"), str("ba"), null), str("ba"), api.OK}, {"min", list(str("")), str(""), api.OK},
		{"min", list(yes, no), no, api.OK}, {"max", list(no, yes, no), yes, api.OK},
		{"min", list(num(1), str("a")), null, api.ErrType}, {"max", list(null, yes, num(1)), null, api.ErrType}, {"max", list(str("a"), null, no), null, api.ErrType},
		{"none", list(num(1)), null, api.ErrName}, {"", nil, null, api.ErrName}, {"least", list(num(1), str("a")), null, api.ErrName},
	} {
		got, e := value.Aggregate(c.name, c.l)
		expect(t, c.name, got, e, c.want, c.e)
	}
	for what, v := range invalid() {
		for _, name := range []string{"count", "sum", "min", "max", "none"} {
			for _, l := range [][]api.Value{{v}, {num(1), str("a"), v}, {v, null}} {
				got, e := value.Aggregate(name, l)
				expect(t, name+" of "+what, got, e, null, api.ErrArg)
			}
		}
	}
}

// many returns n times a value.
func many(v api.Value, n int) []api.Value {
	l := make([]api.Value, n)
	for i := range l {
		l[i] = v
	}
	return l
}

// P1.5: ErrRange is that of the exact sum, wherever parts of it are.
func TestSumIsExact(t *testing.T) {
	high, low := many(num(most), 10), many(num(-most), 10)
	for _, c := range []struct {
		what string
		l    []api.Value
		want api.Value
		e    api.Errno
	}{
		{"at the end", list(num(most-1), num(1)), num(most), api.OK}, {"at the low end", list(num(1-most), num(-1)), num(-most), api.OK},
		{"past the end", list(num(most), num(1)), null, api.ErrRange}, {"past the low end", list(num(-most), num(-1)), null, api.ErrRange}, {"twice", list(num(most), num(most)), null, api.ErrRange}, {"less than twice", list(num(most), num(most), num(-1)), null, api.ErrRange},
		{"past it and back", list(num(most), num(1), num(-1)), num(most), api.OK}, {"back and past it", list(num(-most), num(-1), num(2)), num(1 - most), api.OK}, {"twice and back", list(num(most), num(most), num(-most), num(-5)), num(most - 5), api.OK},
		{"far past it and back", append(append(list(num(3)), high...), low...), num(3), api.OK}, {"and far below", append(append(list(num(-3)), low...), high...), num(-3), api.OK}, {"far past it", high, null, api.ErrRange}, {"far below", low, null, api.ErrRange},
		{"a type beside a range", append(many(num(most), 3), str("a")), null, api.ErrType}, {"0 of many", append(many(num(most-1), 4), many(num(1-most), 4)...), num(0), api.OK},
	} {
		got, e := value.Aggregate("sum", c.l)
		expect(t, c.what, got, e, c.want, c.e)
	}
}
