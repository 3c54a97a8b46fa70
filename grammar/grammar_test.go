package grammar_test

import (
	"slices"
	"strconv"
	"strings"
	"testing"

	"justiciar/api"
	"justiciar/expr"
	"justiciar/lex"
	"justiciar/query"
	"justiciar/unit"
)

// grammar is the document's, as far as expressions, queries and changes reach: with the lengths of paths, the arguments of count, and for update at the outside (whole) alone.
const grammar = `
expr   = and { "or" and }
and    = not { "and" not }
not    = "not" not | comp
comp   = sum [ ( "=" | "<>" | "<" | "<=" | ">" | ">=" ) sum
             | "is" [ "not" ] "null"
             | [ "not" ] "in" "(" expr { "," expr } ")"
             | [ "not" ] "between" sum "and" sum
             | [ "not" ] "like" sum ]
sum    = prod { ( "+" | "-" | "||" ) prod }
prod   = unary { ( "*" | "/" | "mod" ) unary }
unary  = "-" unary | prim
prim   = integer | string | "true" | "false" | "null"
       | path3 [ "(" [ expr { "," expr } ] ")" ] | ":" ( "new" | "old" ) "." name
       | ( name | "sql" ) "%" ( "found" | "notfound" | "isopen" | "rowcount" )
       | "count" "(" "*" ")" | "count" "(" [ expr { "," expr } ] ")" | "(" expr ")" | "(" query ")" | "exists" "(" query ")"
       | "case" { "when" expr "then" expr } [ "else" expr ] "end"
path2  = name [ "." name ]
path3  = name [ "." name [ "." name ] ]
query  = "select" [ "distinct" ] ( "*" | item { "," item } ) "from" source { "," source }
         [ "where" expr ] [ "group" "by" expr { "," expr } ] [ "having" expr ]
         [ "order" "by" expr [ "desc" ] { "," expr [ "desc" ] } ]
item   = expr [ "as" name ]
source = path2 [ "as" "of" sum ] [ name ]
whole  = query [ "for" "update" ]
change = "insert" "into" path2 [ "(" name { "," name } ")" ] ( "values" "(" expr { "," expr } ")" | query )
       | "update" path2 "set" name "=" expr { "," name "=" expr } [ "where" expr ]
       | "delete" "from" path2 [ "where" expr ]
`

// part is a part of the grammar: a word or sign, a kind of tokens or a rule (text), or parts (one after the other, one of them, or again and again).
type part struct {
	kind  byte // '"', 'a', '.', '|', '{'
	text  string
	parts []*part
}

// rules reads the grammar.
func rules() map[string]*part {
	all := map[string]*part{}
	words := strings.Fields(grammar + programs)
	for i, word := range words {
		if word == "=" {
			end := len(words)
			for j := i + 2; j < len(words); j++ {
				if words[j] == "=" {
					end = j - 1
					break
				}
			}
			l := words[i+1 : end]
			all[words[i-1]] = choice(&l)
		}
	}
	return all
}

// choice reads alternatives, up to a bracket that closes.
func choice(l *[]string) *part {
	all, one := &part{kind: '|'}, &part{kind: '.'}
	for len(*l) > 0 && !strings.Contains(") ] }", (*l)[0]) {
		word := (*l)[0]
		*l = (*l)[1:]
		switch word {
		case "|":
			all.parts = append(all.parts, one)
			one = &part{kind: '.'}
			continue
		case "(", "[", "{":
			inner := choice(l)
			*l = (*l)[1:]
			switch word {
			case "[":
				inner.parts = append(inner.parts, &part{kind: '.'})
			case "{":
				inner = &part{kind: '{', parts: []*part{inner}}
			}
			one.parts = append(one.parts, inner)
			continue
		}
		x := &part{kind: 'a', text: word}
		if word[0] == '"' {
			x = &part{kind: '"', text: strings.Trim(word, `"`)}
		}
		one.parts = append(one.parts, x)
	}
	all.parts = append(all.parts, one)
	return all
}

// matcher finds all that the grammar can make of tokens.
type matcher struct {
	rules  map[string]*part
	tokens []api.Token
	seen   map[place][]int
	far    int // how many tokens can begin what the grammar has
}

type place struct {
	part *part
	from int
}

// ends returns where a part can end that begins at a place.
func (m *matcher) ends(p *part, from int) []int {
	switch p.kind {
	case '"':
		return m.end(from, func(t api.Token) bool {
			return t.Text == p.text && (t.Kind == api.TokWord || t.Kind == api.TokSign)
		})
	case 'a':
		if p.text == noQuery {
			return m.unlessQuery(from)
		}
		if kind := kindOf(p.text); kind != 0 {
			return m.end(from, func(t api.Token) bool { return t.Kind == kind })
		}
		return m.ends(m.rules[p.text], from)
	}
	l, ok := m.seen[place{p, from}]
	if !ok {
		l = m.endsOf(p, from)
		m.seen[place{p, from}] = l
	}
	return l
}

func (m *matcher) endsOf(p *part, from int) (l []int) {
	switch p.kind {
	case '.':
		l = []int{from}
		for _, x := range p.parts {
			l = together(l, func(at int) []int { return m.ends(x, at) })
		}
	case '|':
		for _, x := range p.parts {
			l = with(l, m.ends(x, from))
		}
	case '{':
		l = with([]int{from}, together(m.ends(p.parts[0], from), func(at int) []int { return m.ends(p, at) }))
	}
	return l
}

func together(l []int, ends func(at int) []int) (all []int) {
	for _, at := range l {
		all = with(all, ends(at))
	}
	return all
}

func with(l, more []int) []int {
	for _, at := range more {
		if !slices.Contains(l, at) {
			l = append(l, at)
		}
	}
	return l
}

func kindOf(text string) api.TokKind {
	switch text {
	case "name":
		return api.TokName
	case "integer":
		return api.TokInt
	case "string":
		return api.TokText
	}
	return 0
}

func (m *matcher) end(from int, wanted func(t api.Token) bool) []int {
	m.far = max(m.far, from)
	if from == len(m.tokens) || !wanted(m.tokens[from]) {
		return nil
	}
	return []int{from + 1}
}

// faultOf returns the fault of tokens by a rule: their first one that cannot stand there, or that they end.
func faultOf(rules map[string]*part, rule, s string, tokens []api.Token) api.Fault {
	m := matcher{rules: rules, tokens: tokens, seen: map[place][]int{}}
	for _, end := range m.ends(rules[rule], 0) {
		m.far = max(m.far, end)
		if end == len(tokens) {
			return api.Fault{}
		}
	}
	if m.far == len(tokens) {
		return api.Fault{Code: api.ErrEnd, Line: 1, Col: len(s) + 1}
	}
	t := tokens[m.far]
	called := t.Text
	switch t.Kind {
	case api.TokInt:
		called = strconv.Itoa(t.N)
	case api.TokText:
		called = "'"
	}
	return api.Fault{Code: api.ErrSyntax, Name: called, Line: t.Line, Col: t.Col}
}

// parse returns the fault that a layer's Parse finds in what should be by a rule, and whether its result is valid.
func parse(rule, s string) (api.Fault, bool) {
	switch rule {
	case "block":
		b, f := unit.ParseBlock(s)
		return f, f.Code == api.OK && unit.ValidBlock(b)
	case "def":
		d, f := unit.ParseDef(s)
		return f, unit.ValidDef(d)
	case "script":
		l, f := unit.Parse(s)
		_, code := unit.Text(l)
		return f, f.Code == api.OK && code == api.OK
	case "expr":
		e, f := expr.Parse(s)
		return f, expr.Valid(e)
	case "whole":
		q, f := query.Parse(s)
		return f, query.Valid(q)
	}
	x, f := query.ParseChange(s)
	return f, query.ValidChange(x)
}

// isFlawed reports whether a string may be of the form, but not valid.
func isFlawed(s string) bool {
	return strings.Contains(s, "case end") || strings.Contains(s, "case else") || strings.Contains(s, "create")
}

// comparer compares what Parse says with what a rule does.
type comparer struct {
	*testing.T
	rules map[string]*part
	rule  string
	words []string // what is put beside what is compared
	read  int      // how many strings were without faults
}

func newComparer(t *testing.T, rule string) *comparer {
	t.Parallel()
	return &comparer{T: t, rules: rules(), rule: rule, words: kinds()}
}

func (c *comparer) compare(words ...string) {
	c.Helper()
	s := strings.Join(words, " ")
	tokens, f := lex.Lex(s)
	if f.Code != api.OK {
		c.Fatal(s, f)
	}
	f, valid := parse(c.rule, s)
	want := faultOf(c.rules, c.rule, s, tokens)
	if f.Code == api.ErrLimit && want.Code == api.OK && isFlawed(s) {
		return
	}
	if f != want || f.Code == api.OK != valid {
		c.Fatalf("%s: %v, want %v", s, f, want)
	}
	if valid {
		c.read++
	}
}

// short compares all strings of one to three of some tokens behind some words.
func (c *comparer) short(l []string, words ...string) {
	for _, x := range l {
		c.compare(slices.Concat(words, []string{x})...)
		for _, y := range l {
			c.compare(slices.Concat(words, []string{x, y})...)
			for _, z := range l {
				c.compare(slices.Concat(words, []string{x, y, z})...)
			}
		}
	}
}

// around compares a string, with one token more, less, or another one, and each part of it from its beginning.
func (c *comparer) around(s string) {
	words := strings.Fields(s)
	if f, valid := parse(c.rule, s); !valid {
		c.Error(s, f)
	}
	for i := range words {
		before, behind := words[:i], words[i+1:]
		c.compare(before...)
		c.compare(slices.Concat(before, behind)...)
		for _, word := range c.words {
			c.compare(slices.Concat(before, []string{word}, behind)...)
			c.compare(slices.Concat(before, []string{word}, words[i:])...)
		}
	}
	for _, word := range c.words {
		c.compare(append(slices.Clone(words), word)...)
	}
}

func (c *comparer) expect(least int) {
	if c.read < least {
		c.Error("too few were read:", c.read)
	}
}

// terminals returns a token of each kind, all words and signs that the grammar has, and some that it does not have.
func terminals() []string {
	l := []string{"x", "12", "'s'", ";", "int"}
	seen := map[string]bool{}
	for _, word := range strings.Fields(grammar) {
		if word[0] == '"' && !seen[word] {
			seen[word] = true
			l = append(l, strings.Trim(word, `"`))
		}
	}
	return l
}

// kinds returns one of those terminals that the grammar has in the same places.
func kinds() []string {
	return slices.DeleteFunc(terminals(), func(s string) bool {
		return slices.Contains(strings.Fields("<> < <= > >= / mod || or notfound isopen rowcount true false old"), s)
	})
}

// samples returns strings by a rule that have all that it has.
func samples(rule string) []string {
	switch rule {
	case "expr":
		return []string{
			"a . b . c + 12 * 's' - d || null", "- - a / true mod - 1", "not not a = b and c <> d or e >= f", "a < - b and c <= d or not e > f",
			"a is null and b is not null", "a in ( b , c or d ) and e not in ( f )", "a between b + c and d and e not between f and g", "a like b and c not like d",
			"f ( ) + a . g ( b , not c ) + count ( * ) + count ( d )", ": new . a = : old . b", "a % found and sql % rowcount = c % isopen or d % notfound",
			"case when a then b when c then d else e end + case when f then g end", "( a + ( b ) ) * c", "( select a from t ) + 1", "not exists ( select * from t ) and a in ( ( select b from u . v ) )",
			"f ( exists ( select distinct a + 1 as b , x . c from t x , u . v as of 7 - d y , w as of e where a = 1 group by f , g is null having count ( * ) > 2 order by h desc , - i ) )",
		}
	case "whole":
		return []string{
			"select a from t", "select distinct * from t x , u . v", "select a , b as c from t x , u . v as of 7 y where x . a = 1 order by b desc for update", "select * from t for update",
			"select distinct a or b as b , x . c from t x , u . v as of 7 - d y , w as of e where a = 1 group by f , g is null having count ( * ) > 2 order by h desc , - i for update",
			"select ( select a from t ) as a , exists ( select * from u as of ( a ) v ) from w where a in ( 1 , 2 ) having not b",
		}
	}
	return []string{
		"insert into t values ( 1 )", "insert into u . t ( a , b ) values ( c or d , - e , count ( * ) )", "insert into t select distinct a as b , c from t x , u . v as of 7 y where d group by e having f order by g desc", "insert into t ( a ) select * from u",
		"update t set a = b", "update u . t set a = a + 1 , b = c = d , c = ( select a from t ) where a in ( 1 , 2 ) or not b", "delete from t", "delete from u . t where exists ( select * from t ) and a = 1",
	}
}

// P3.1: short strings of all tokens are read as the grammar says.
func TestShortExprs(t *testing.T) {
	c := newComparer(t, "expr")
	c.short(terminals())
	for _, x := range terminals() {
		for _, y := range terminals() {
			c.compare("(", "select", "x", "from", "x", x, y, ")")
		}
	}
	c.expect(20)
}

// P4.1: short strings of all tokens are read as the grammar says, behind what may be the beginning of a query.
func TestShortQueries(t *testing.T) {
	c := newComparer(t, "whole")
	c.compare()
	c.short(kinds(), "select", "x", "from", "x")
	for _, begin := range []string{"", "select", "select *", "select x as", "select x from", "select x from x as", "select x from x as of x", "select x from x group", "select x from x group by x", "select x from x having x", "select x from x order", "select x from x order by x", "select x from x order by x desc", "select x from x for update"} {
		for _, x := range terminals() {
			for _, y := range terminals() {
				c.compare(append(strings.Fields(begin), x, y)...)
			}
		}
	}
	c.expect(100)
}

// P4.2: short strings of all tokens are read as the grammar says, behind what may be the beginning of a change.
func TestShortChanges(t *testing.T) {
	c := newComparer(t, "change")
	c.compare()
	c.short(kinds(), "delete", "from", "x")
	for _, begin := range []string{"", "insert", "insert into", "insert into x", "insert into x . x", "insert into x (", "insert into x ( x", "insert into x ( x )", "insert into x values (", "insert into x values ( x )", "insert into x select x from x", "update", "update x", "update x . x", "update x set x", "update x set x =", "update x set x = x", "update x set x = x ,", "update x set x = x where x", "delete", "delete from x . x", "delete from x where x"} {
		for _, x := range terminals() {
			for _, y := range terminals() {
				c.compare(append(strings.Fields(begin), x, y)...)
			}
		}
	}
	c.expect(100)
}

// P3.1: expressions of all kinds, and what is beside them, are read as the grammar says.
func TestChangedExprs(t *testing.T) {
	c := newComparer(t, "expr")
	for _, s := range samples("expr") {
		c.around(s)
	}
	c.expect(300)
}

// P4.1: queries with all that they may have, and what is beside them, are read as the grammar says.
func TestChangedQueries(t *testing.T) {
	c := newComparer(t, "whole")
	for _, s := range samples("whole") {
		c.around(s)
	}
	c.expect(300)
}

// P4.2: changes of all kinds, and what is beside them, are read as the grammar says.
func TestChangedChanges(t *testing.T) {
	c := newComparer(t, "change")
	for _, s := range samples("change") {
		c.around(s)
	}
	c.expect(300)
}
