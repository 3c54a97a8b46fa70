package expr_test

import (
	"slices"
	"strconv"
	"strings"
	"testing"

	"justiciar/api"
	"justiciar/expr"
	"justiciar/lex"
)

// grammar is the document's, as far as expressions reach: with the lengths of paths, the arguments of count, and without for update.
const grammar = `
expr   = and { "or" and }
and    = not { "and" not }
not    = "not" not | comp
comp   = sum [ ( "=" | "<>" | "<" | "<=" | ">" | ">=" ) sum
             | "is" [ "not" ] "null"
             | [ "not" ] "in" "(" expr { "," expr } ")"
             | [ "not" ] "between" sum "and" sum
             | [ "not" ] "like" sum ]
sum    = prod { ( "+" | "-" | "||" ) prod }
prod   = unary { ( "*" | "/" | "mod" ) unary }
unary  = "-" unary | prim
prim   = integer | string | "true" | "false" | "null"
       | path3 [ "(" [ expr { "," expr } ] ")" ] | ":" ( "new" | "old" ) "." name
       | ( name | "sql" ) "%" ( "found" | "notfound" | "isopen" | "rowcount" )
       | "count" "(" "*" ")" | "count" "(" [ expr { "," expr } ] ")" | "(" expr ")" | "(" query ")" | "exists" "(" query ")"
       | "case" { "when" expr "then" expr } [ "else" expr ] "end"
path2  = name [ "." name ]
path3  = name [ "." name [ "." name ] ]
query  = "select" [ "distinct" ] ( "*" | item { "," item } ) "from" source { "," source }
         [ "where" expr ] [ "group" "by" expr { "," expr } ] [ "having" expr ]
         [ "order" "by" expr [ "desc" ] { "," expr [ "desc" ] } ]
item   = expr [ "as" name ]
source = path2 [ "as" "of" sum ] [ name ]
`

// part is a part of the grammar: a word or sign, a kind of tokens or a rule (text), or parts (one after the other, one of them, or again and again).
type part struct {
	kind  byte // '"', 'a', '.', '|', '{'
	text  string
	parts []*part
}

// rules reads the grammar.
func rules() map[string]*part {
	all := map[string]*part{}
	words := strings.Fields(grammar)
	for i, word := range words {
		if word == "=" {
			end := len(words)
			for j := i + 2; j < len(words); j++ {
				if words[j] == "=" {
					end = j - 1
					break
				}
			}
			l := words[i+1 : end]
			all[words[i-1]] = choice(&l)
		}
	}
	return all
}

// choice reads alternatives, up to a bracket that closes.
func choice(l *[]string) *part {
	all, one := &part{kind: '|'}, &part{kind: '.'}
	for len(*l) > 0 && !strings.Contains(") ] }", (*l)[0]) {
		word := (*l)[0]
		*l = (*l)[1:]
		switch word {
		case "|":
			all.parts = append(all.parts, one)
			one = &part{kind: '.'}
			continue
		case "(", "[", "{":
			inner := choice(l)
			*l = (*l)[1:]
			switch word {
			case "[":
				inner.parts = append(inner.parts, &part{kind: '.'})
			case "{":
				inner = &part{kind: '{', parts: []*part{inner}}
			}
			one.parts = append(one.parts, inner)
			continue
		}
		x := &part{kind: 'a', text: word}
		if word[0] == '"' {
			x = &part{kind: '"', text: strings.Trim(word, `"`)}
		}
		one.parts = append(one.parts, x)
	}
	all.parts = append(all.parts, one)
	return all
}

// matcher finds all that the grammar can make of tokens.
type matcher struct {
	rules  map[string]*part
	tokens []api.Token
	seen   map[place][]int
	far    int // how many tokens can begin what the grammar has
}

type place struct {
	part *part
	from int
}

// ends returns where a part can end that begins at a place.
func (m *matcher) ends(p *part, from int) []int {
	switch p.kind {
	case '"':
		return m.end(from, func(t api.Token) bool {
			return t.Text == p.text && (t.Kind == api.TokWord || t.Kind == api.TokSign)
		})
	case 'a':
		if kind := kindOf(p.text); kind != 0 {
			return m.end(from, func(t api.Token) bool { return t.Kind == kind })
		}
		return m.ends(m.rules[p.text], from)
	}
	l, ok := m.seen[place{p, from}]
	if !ok {
		l = m.endsOf(p, from)
		m.seen[place{p, from}] = l
	}
	return l
}

func (m *matcher) endsOf(p *part, from int) (l []int) {
	switch p.kind {
	case '.':
		l = []int{from}
		for _, x := range p.parts {
			l = together(l, func(at int) []int { return m.ends(x, at) })
		}
	case '|':
		for _, x := range p.parts {
			l = with(l, m.ends(x, from))
		}
	case '{':
		l = with([]int{from}, together(m.ends(p.parts[0], from), func(at int) []int { return m.ends(p, at) }))
	}
	return l
}

func together(l []int, ends func(at int) []int) (all []int) {
	for _, at := range l {
		all = with(all, ends(at))
	}
	return all
}

func with(l, more []int) []int {
	for _, at := range more {
		if !slices.Contains(l, at) {
			l = append(l, at)
		}
	}
	return l
}

func kindOf(text string) api.TokKind {
	switch text {
	case "name":
		return api.TokName
	case "integer":
		return api.TokInt
	case "string":
		return api.TokText
	}
	return 0
}

func (m *matcher) end(from int, wanted func(t api.Token) bool) []int {
	m.far = max(m.far, from)
	if from == len(m.tokens) || !wanted(m.tokens[from]) {
		return nil
	}
	return []int{from + 1}
}

// faultOf returns the fault of tokens by the grammar: their first one that cannot stand there, or that they end.
func faultOf(rules map[string]*part, s string, tokens []api.Token) api.Fault {
	m := matcher{rules: rules, tokens: tokens, seen: map[place][]int{}}
	for _, end := range m.ends(rules["expr"], 0) {
		m.far = max(m.far, end)
		if end == len(tokens) {
			return api.Fault{}
		}
	}
	if m.far == len(tokens) {
		return api.Fault{Code: api.ErrEnd, Line: 1, Col: len(s) + 1}
	}
	t := tokens[m.far]
	called := t.Text
	switch t.Kind {
	case api.TokInt:
		called = strconv.Itoa(t.N)
	case api.TokText:
		called = "'"
	}
	return api.Fault{Code: api.ErrSyntax, Name: called, Line: t.Line, Col: t.Col}
}

// compare compares what Parse says of tokens with what the grammar does.
func compare(t *testing.T, rules map[string]*part, words []string) (read bool) {
	t.Helper()
	s := strings.Join(words, " ")
	tokens, f := lex.Lex(s)
	if f.Code != api.OK {
		t.Fatal(s, f)
	}
	e, f := expr.Parse(s)
	want := faultOf(rules, s, tokens)
	if f.Code == api.ErrLimit && want.Code == api.OK && (strings.Contains(s, "case end") || strings.Contains(s, "case else")) {
		return false // it is of the form, but not valid
	}
	if f != want || f.Code == api.OK != expr.Valid(e) {
		t.Fatalf("%s: %v, want %v", s, f, want)
	}
	return f.Code == api.OK
}

// terminals returns a token of each kind, all words and signs that the grammar has, and some that it does not have.
func terminals() []string {
	l := []string{"x", "12", "'s'", ";", "for", "update", "int"}
	seen := map[string]bool{}
	for _, word := range strings.Fields(grammar) {
		if word[0] == '"' && !seen[word] {
			seen[word] = true
			l = append(l, strings.Trim(word, `"`))
		}
	}
	return l
}

// kinds returns one of those terminals that the grammar has in the same places.
func kinds() []string {
	return slices.DeleteFunc(terminals(), func(s string) bool {
		return slices.Contains(strings.Fields("<> < <= > >= / mod || or notfound isopen rowcount true false old"), s)
	})
}

// P3.1: short strings of all tokens are read as the grammar says.
func TestAllShortStrings(t *testing.T) {
	t.Parallel()
	all, read := rules(), 0
	for _, a := range terminals() {
		for _, b := range terminals() {
			for _, c := range terminals() {
				if compare(t, all, []string{a, b, c}) {
					read++
				}
			}
			compare(t, all, []string{a, b})
			compare(t, all, []string{"(", "select", "x", "from", "x", a, b, ")"})
		}
		compare(t, all, []string{a})
	}
	if read < 20 {
		t.Error("too few were read:", read)
	}
}

// P3.1: expressions of all kinds, with one token more, less, or another one, are read as the grammar says.
func TestChangedStrings(t *testing.T) {
	t.Parallel()
	all, read := rules(), 0
	for _, x := range samples() {
		words := strings.Fields(strings.ReplaceAll(x.want, "it''s", "its"))
		if x.expr.Op == api.EBinary && x.expr.Text == words[1] && x.expr.Text != "=" {
			continue // it is as a = 1
		}
		compare(t, all, words)
		for i := range words {
			before, behind := words[:i], words[i+1:]
			compare(t, all, before)
			compare(t, all, slices.Concat(before, behind))
			for _, word := range kinds() {
				if compare(t, all, slices.Concat(before, []string{word}, behind)) {
					read++
				}
				if compare(t, all, slices.Concat(before, []string{word}, words[i:])) {
					read++
				}
			}
		}
	}
	if read < 1000 {
		t.Error("too few were read:", read)
	}
}
