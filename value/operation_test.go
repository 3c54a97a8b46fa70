package value_test

import (
	"math/big"
	"slices"
	"testing"

	"justiciar/api"
	"justiciar/value"
)

func operations() []string {
	return []string{"+", "-", "*", "/", "mod", "||", "=", "<>", "<", "<=", ">", ">=", "and", "or", "like"}
}

// fits reports whether a value is null or of a kind that an operation takes.
func fits(op string, v api.Value) bool {
	switch op {
	case "+", "-", "*", "/", "mod":
		return v.Kind == api.VNull || v.Kind == api.VInt
	case "||", "like":
		return v.Kind == api.VNull || v.Kind == api.VText
	case "and", "or":
		return v.Kind == api.VNull || v.Kind == api.VBool
	}
	return true
}

// P1.2
func TestUnary(t *testing.T) {
	for _, c := range []struct {
		op      string
		a, want api.Value
		e       api.Errno
	}{
		{"-", num(5), num(-5), api.OK}, {"-", num(-5), num(5), api.OK}, {"-", num(0), num(0), api.OK},
		{"-", num(most), num(-most), api.OK}, {"-", num(-most), num(most), api.OK}, {"-", null, null, api.OK},
		{"not", yes, no, api.OK}, {"not", no, yes, api.OK}, {"not", null, null, api.OK},
		{"-", str("1"), null, api.ErrType}, {"-", yes, null, api.ErrType}, {"not", num(1), null, api.ErrType}, {"not", str(""), null, api.ErrType},
		{"+", num(1), null, api.ErrArg}, {"", num(1), null, api.ErrArg}, {"NOT", yes, null, api.ErrArg}, {"not ", yes, null, api.ErrArg}, {"and", yes, null, api.ErrArg}, {"abs", num(1), null, api.ErrArg},
	} {
		got, e := value.Unary(c.op, c.a)
		expect(t, c.op, got, e, c.want, c.e)
	}
	for what, v := range invalid() {
		for _, op := range []string{"-", "not", "?"} {
			got, e := value.Unary(op, v)
			expect(t, op+" of "+what, got, e, null, api.ErrArg)
		}
	}
}

// P1.2
func TestBinaryArguments(t *testing.T) {
	for what, v := range invalid() {
		for _, op := range append(operations(), "?") {
			for _, w := range samples() {
				got, e := value.Binary(op, v, w)
				expect(t, what+" "+op, got, e, null, api.ErrArg)
				got, e = value.Binary(op, w, v)
				expect(t, op+" "+what, got, e, null, api.ErrArg)
			}
		}
	}
	for _, op := range []string{"", "?", "not", "==", "!=", "AND", "MOD", "xor", "in", "between", "%", " +", "+ ", "nvl"} {
		for _, v := range samples() {
			got, e := value.Binary(op, v, v)
			expect(t, op, got, e, null, api.ErrArg)
		}
	}
}

// P1.2
func TestBinaryType(t *testing.T) {
	for _, op := range operations() {
		for _, a := range samples() {
			for _, b := range samples() {
				mixed := a.Kind != b.Kind && a != null && b != null
				got, e := value.Binary(op, a, b)
				if !fits(op, a) || !fits(op, b) || mixed {
					expect(t, op, got, e, null, api.ErrType)
				} else if e == api.ErrType {
					t.Error(a, op, b, "ErrType")
				}
			}
		}
	}
}

// P1.2
func TestBinaryNull(t *testing.T) {
	for _, op := range operations() {
		if op == "and" || op == "or" {
			continue
		}
		for _, v := range samples() {
			if !fits(op, v) {
				continue
			}
			got, e := value.Binary(op, null, v)
			expect(t, "null "+op, got, e, null, api.OK)
			if v == num(0) && (op == "/" || op == "mod") {
				continue
			}
			got, e = value.Binary(op, v, null)
			expect(t, op+" null", got, e, null, api.OK)
		}
	}
}

// P1.2: the three truths, written out.
func TestTruthTables(t *testing.T) {
	truths := list(no, null, yes)
	and := [3][3]api.Value{{no, no, no}, {no, null, null}, {no, null, yes}}
	or := [3][3]api.Value{{no, null, yes}, {null, null, yes}, {yes, yes, yes}}
	for i, a := range truths {
		for j, b := range truths {
			got, e := value.Binary("and", a, b)
			expect(t, "and", got, e, and[i][j], api.OK)
			got, e = value.Binary("or", a, b)
			expect(t, "or", got, e, or[i][j], api.OK)
		}
	}
	for _, v := range list(num(0), str("")) {
		for _, w := range truths {
			got, e := value.Binary("and", w, v)
			expect(t, "and", got, e, null, api.ErrType)
			got, e = value.Binary("or", v, w)
			expect(t, "or", got, e, null, api.ErrType)
		}
	}
}

// exact calculates with integers of any size; ok is false for a division by 0.
func exact(op string, a, b int) (n *big.Int, ok bool) {
	x, y := big.NewInt(int64(a)), big.NewInt(int64(b))
	switch op {
	case "+":
		return x.Add(x, y), true
	case "-":
		return x.Sub(x, y), true
	case "*":
		return x.Mul(x, y), true
	}
	if b == 0 {
		return x, false
	}
	if op == "/" {
		return x.Quo(x, y), true
	}
	return x.Rem(x, y), true
}

// P1.2
func TestArithmetic(t *testing.T) {
	numbers := []int{0, 1, -1, 2, -2, 3, -3, 7, -7, 10, 1 << 20, -1 << 20, 1<<20 + 1, 1<<20 - 1, 1 << 39, -1 << 39, 1<<39 + 1, 1 << 24, 1 << 32, most / 3, most/3 + 1, most - 1, most, -most, 1 - most}
	for _, op := range []string{"+", "-", "*", "/", "mod"} {
		for _, a := range numbers {
			for _, b := range numbers {
				want, e := null, api.OK
				n, ok := exact(op, a, b)
				switch {
				case !ok:
					e = api.ErrZero
				case n.CmpAbs(big.NewInt(most)) > 0:
					e = api.ErrRange
				default:
					want = num(int(n.Int64()))
				}
				got, gotE := value.Binary(op, num(a), num(b))
				expect(t, op, got, gotE, want, e)
			}
		}
	}
}

// P1.2: what the document and the issue name, written out.
func TestArithmeticEdges(t *testing.T) {
	for _, c := range []struct {
		op   string
		a, b int
		want api.Value
		e    api.Errno
	}{
		{"/", 7, 2, num(3), api.OK}, {"/", -7, 2, num(-3), api.OK}, {"/", 7, -2, num(-3), api.OK}, {"/", -7, -2, num(3), api.OK},
		{"mod", 7, 2, num(1), api.OK}, {"mod", -7, 2, num(-1), api.OK}, {"mod", 7, -2, num(1), api.OK}, {"mod", -7, -2, num(-1), api.OK}, {"mod", 6, 3, num(0), api.OK},
		{"/", 1, 0, null, api.ErrZero}, {"mod", 1, 0, null, api.ErrZero}, {"/", 0, 0, null, api.ErrZero}, {"mod", 0, 0, null, api.ErrZero}, {"/", 0, 5, num(0), api.OK},
		{"+", most - 1, 1, num(most), api.OK}, {"+", most, 1, null, api.ErrRange}, {"+", -most, -1, null, api.ErrRange}, {"-", 1 - most, 1, num(-most), api.OK}, {"-", -most, 1, null, api.ErrRange}, {"-", most, -1, null, api.ErrRange},
		{"*", 1 << 20, 1 << 20, num(most), api.OK}, {"*", -1 << 20, 1 << 20, num(-most), api.OK}, {"*", 1 << 20, 1<<20 + 1, null, api.ErrRange}, {"*", most, most, null, api.ErrRange}, {"*", 1 << 32, 1 << 32, null, api.ErrRange}, {"*", 1 << 32, -1 << 32, null, api.ErrRange}, {"*", most, 0, num(0), api.OK}, {"*", 0, -most, num(0), api.OK}, {"*", -most, -1, num(most), api.OK},
		{"/", most, -1, num(-most), api.OK}, {"/", -most, -1, num(most), api.OK},
	} {
		got, e := value.Binary(c.op, num(c.a), num(c.b))
		expect(t, c.op, got, e, c.want, c.e)
	}
	// of null and 0 the result is null: an error of a value needs both
	for _, op := range []string{"/", "mod"} {
		got, e := value.Binary(op, null, num(0))
		expect(t, "null "+op+" 0", got, e, null, api.OK)
		got, e = value.Binary(op, str("a"), num(0)) // ErrType is ahead of ErrZero
		expect(t, "a string "+op+" 0", got, e, null, api.ErrType)
		got, e = value.Binary(op, num(most+1), num(0)) // and ErrArg ahead of both
		expect(t, "too great "+op+" 0", got, e, null, api.ErrArg)
	}
}

// P1.2
func TestJoin(t *testing.T) {
	half := longest()[:api.MaxText/2]
	for _, c := range []struct {
		a, b string
		want api.Value
		e    api.Errno
	}{
		{"ab", "cd", str("abcd"), api.OK}, {"", "", str(""), api.OK}, {"a", "", str("a"), api.OK}, {"", "a", str("a"), api.OK},
		{half, half, str(longest()), api.OK}, {half, half + "x", null, api.ErrRange}, {longest(), "", str(longest()), api.OK}, {"y", longest(), null, api.ErrRange}, {longest(), longest(), null, api.ErrRange},
	} {
		got, e := value.Binary("||", str(c.a), str(c.b))
		expect(t, c.a+" || "+c.b, got, e, c.want, c.e)
	}
	got, e := value.Binary("||", str(longest()), num(1))
	expect(t, "a long string || 1", got, e, null, api.ErrType)
}

// P1.2
func TestComparisons(t *testing.T) {
	rising := [][]api.Value{
		{num(-most), num(-10), num(-9), num(0), num(9), num(10), num(most)},
		{str(""), str(" "), str("!"), str("1"), str("10"), str("9"), str("A"), str("B"), str("a"), str("aa"), str("ab"), str("b"), str("b "), str("~")},
		{no, yes},
	}
	for _, l := range rising {
		for i, a := range l {
			for j, b := range l {
				for op, want := range map[string]bool{"=": i == j, "<>": i != j, "<": i < j, "<=": i <= j, ">": i > j, ">=": i >= j} {
					got, e := value.Binary(op, a, b)
					expect(t, op, got, e, flag(want), api.OK)
				}
			}
		}
	}
}

// isLike follows the document word by word: % is tried with each number of bytes.
func isLike(s, pattern string) bool {
	if pattern == "" {
		return s == ""
	}
	switch c := pattern[0]; {
	case c == '%':
		for n := 0; n <= len(s); n++ {
			if isLike(s[n:], pattern[1:]) {
				return true
			}
		}
		return false
	case s == "":
		return false
	default:
		return (c == '_' || c == s[0]) && isLike(s[1:], pattern[1:])
	}
}

// words returns all strings of at most n letters of an alphabet.
func words(alphabet string, n int) []string {
	all := []string{""}
	for i := 0; i < len(all); i++ {
		if len(all[i]) < n {
			for _, c := range alphabet {
				all = append(all, all[i]+string(c))
			}
		}
	}
	return all
}

// P1.2
func TestLike(t *testing.T) {
	for _, c := range []struct {
		s, pattern string
		want       bool
	}{
		{"abc", "a%_", true}, {"ab", "a%_", true}, {"a", "a%_", false}, {"abc", "abc", true}, {"abc", "ab", false}, {"ab", "abc", false}, {"abc", "Abc", false},
		{"", "", true}, {"", "%", true}, {"", "%%", true}, {"", "_", false}, {"a", "", false}, {"a", "_", true}, {"ab", "_", false}, {"ab", "__", true},
		{"abcabc", "%abc", true}, {"abcab", "%abc", false}, {"xabcx", "%abc%", true}, {"aab", "%ab", true}, {"abab", "a%b", true}, {"aba", "a%b", false},
		{"%", "%", true}, {"_", "_", true}, {"a", "\\%", false}, {"\\a", "\\%", true}, {"a.c", "a.c", true}, {"abc", "a.c", false}, {"abc", "a*", false}, {"[a]", "[a]", true}, {"it's", "it's", true}, {"a%b", "a%b", true}, {"~ ", "_ ", true},
	} {
		got, e := value.Binary("like", str(c.s), str(c.pattern))
		expect(t, c.s+" like "+c.pattern, got, e, flag(c.want), api.OK)
	}
	for _, s := range words("ab%_", 4) {
		for _, pattern := range words("ab%_", 4) {
			got, e := value.Binary("like", str(s), str(pattern))
			expect(t, s+" like "+pattern, got, e, flag(isLike(s, pattern)), api.OK)
		}
	}
}

// P1.2: a pattern that could be tried in very many ways ends soon.
func TestLikeLong(t *testing.T) {
	pattern := ""
	for len(pattern) < api.MaxText-1 {
		pattern += "%x"
	}
	got, e := value.Binary("like", str(longest()), str(pattern))
	expect(t, "many x", got, e, yes, api.OK)
	got, e = value.Binary("like", str(longest()), str(pattern[:api.MaxText-1]+"y"))
	expect(t, "many x, and y", got, e, no, api.OK)
}

// P1.3
func TestIn(t *testing.T) {
	for _, c := range []struct {
		what string
		a    api.Value
		l    []api.Value
		want api.Value
		e    api.Errno
	}{
		{"an empty list", num(1), nil, no, api.OK}, {"null in an empty list", null, nil, no, api.OK}, {"an empty list that is not nil", str("a"), list(), no, api.OK},
		{"the first", num(1), list(num(1), num(2)), yes, api.OK}, {"the last", num(2), list(num(1), num(2)), yes, api.OK}, {"none", num(3), list(num(1), num(2)), no, api.OK},
		{"a string", str("b"), list(str("a"), str("b")), yes, api.OK}, {"a bool", no, list(yes), no, api.OK}, {"another bool", no, list(yes, no), yes, api.OK},
		{"null", null, list(num(1), num(2)), null, api.OK}, {"null and null", null, list(null), null, api.OK}, {"null of all kinds", null, list(num(1), str("a"), yes), null, api.OK},
		{"none, and null", num(3), list(num(1), null, num(2)), null, api.OK}, {"behind null", num(2), list(null, num(2)), yes, api.OK}, {"ahead of null", num(2), list(num(2), null), yes, api.OK},
		{"a type", num(1), list(str("a")), null, api.ErrType}, {"a type ahead of it", num(1), list(str("1"), num(1)), null, api.ErrType}, {"a type behind it", num(1), list(num(1), str("a"), yes), yes, api.OK},
		{"a type behind null", num(1), list(null, yes), null, api.ErrType}, {"a type behind others", num(1), list(num(2), null, num(3), str("a")), null, api.ErrType},
	} {
		got, e := value.In(c.a, c.l)
		expect(t, c.what, got, e, c.want, c.e)
	}
	for what, v := range invalid() {
		for _, c := range [][]api.Value{{v}, {v, num(1)}, {num(1), v}, {num(1), num(1), v}, {num(1), str("a"), v}, {v, v}} {
			got, e := value.In(c[0], c[1:])
			expect(t, what, got, e, null, api.ErrArg)
		}
	}
}

// P1.3: In is the or of the comparisons, from the left.
func TestInIsOr(t *testing.T) {
	small := list(null, num(1), num(2), str("a"), yes)
	for _, a := range small {
		for _, b := range small {
			for _, c := range small {
				want, wantE := no, api.OK
				for _, v := range list(b, c) {
					one, e := value.Binary("=", a, v)
					if e != api.OK {
						want, wantE = null, e
						break
					}
					if want, _ = value.Binary("or", want, one); want == yes {
						break
					}
				}
				got, e := value.In(a, list(b, c))
				expect(t, "in", got, e, want, wantE)
			}
		}
	}
}

// P1.3
func TestBetween(t *testing.T) {
	for _, c := range []struct {
		what    string
		a, b, c api.Value
		want    api.Value
		e       api.Errno
	}{
		{"inside", num(2), num(1), num(3), yes, api.OK}, {"at the low end", num(1), num(1), num(3), yes, api.OK}, {"at the high end", num(3), num(1), num(3), yes, api.OK}, {"below", num(0), num(1), num(3), no, api.OK}, {"above", num(4), num(1), num(3), no, api.OK}, {"the wrong way round", num(2), num(3), num(1), no, api.OK}, {"just one", num(2), num(2), num(2), yes, api.OK},
		{"strings", str("b"), str("a"), str("c"), yes, api.OK}, {"bools", yes, no, yes, yes, api.OK},
		{"null", null, num(1), num(3), null, api.OK}, {"above null", num(2), null, num(3), null, api.OK}, {"below null", num(2), num(1), null, null, api.OK}, {"too great above null", num(4), null, num(3), no, api.OK}, {"too small below null", num(0), num(1), null, no, api.OK}, {"all null", null, null, null, null, api.OK},
		{"null between two kinds", null, num(1), str("a"), null, api.OK},
		{"a low end of another kind", num(2), str("a"), num(3), null, api.ErrType}, {"a high end of another kind", num(2), num(1), yes, null, api.ErrType},
		{"both are calculated", num(0), num(1), str("a"), null, api.ErrType}, {"both, also with null", num(0), null, str("a"), null, api.ErrType},
	} {
		got, e := value.Between(c.a, c.b, c.c)
		expect(t, c.what, got, e, c.want, c.e)
	}
	for what, v := range invalid() {
		for i := range 3 {
			l := slices.Insert(list(num(1), str("a")), i, v)
			got, e := value.Between(l[0], l[1], l[2])
			expect(t, what, got, e, null, api.ErrArg)
		}
	}
}
