package grammar_test

import (
	"slices"
	"strings"
	"testing"

	"justiciar/api"
)

// noQuery is where no query may begin.
const noQuery = "noquery"

// programs is the rest of the document's grammar: with what begins a query behind the in of a loop, where a query may be for update, and which objects can be replaced.
const programs = `
block   = [ "declare" { decl } ] "begin" rest
rest    = { stmt } [ "exception" { "when" name { "or" name } "then" { stmt } } ] "end" ";"
type    = "int" | "text" | "bool"
atype   = type | "array" "of" type
decl    = name ( type [ ":=" expr ] | "array" "of" type ) ";" | "cursor" name "is" whole ";" | name "exception" ";"
loop    = "loop" { stmt } "end" "loop" ";"
stmt    = block | "null" ";" | change ";" | "exit" [ "when" expr ] ";" | "return" [ expr ] ";" | "raise" [ name ] ";"
        | target ":=" expr ";" | path3 [ "(" [ expr { "," expr } ] ")" ] ";"
        | "if" expr "then" { stmt } { "elsif" expr "then" { stmt } } [ "else" { stmt } ] "end" "if" ";"
        | [ "while" expr ] loop
        | "for" name "in" ( noquery | "reverse" ) sum ".." sum loop
        | "for" name "in" ( "(" whole ")" | name ) loop
        | "select" [ "distinct" ] item { "," item } into "from" source { "," source }
          [ "where" expr ] [ "group" "by" expr { "," expr } ] [ "having" expr ]
          [ "order" "by" expr [ "desc" ] { "," expr [ "desc" ] } ] [ "for" "update" ] ";"
        | "open" name ";" | "close" name ";"
        | "fetch" name ( "into" target { "," target } | "bulk" "collect" "into" target { "," target } [ "limit" expr ] ) ";"
        | "forall" name "in" sum ".." sum change ";"
        | "commit" ";" | "rollback" [ "to" name ] ";" | "savepoint" name ";"
into    = [ "bulk" "collect" ] "into" target { "," target }
target  = path3 [ "(" expr ")" ] | ":" "new" "." name
param   = name [ "in" | "out" | "in" "out" ] atype
heads   = [ "(" param { "," param } ")" ]
tail    = [ "autonomous" ] "is" { decl } "begin" rest
sub     = "procedure" name heads tail | "function" name heads "return" type tail
osub    = "procedure" path2 heads tail | "function" path2 heads "return" type tail
def     = "create" object | "create" "or" "replace" again
        | "drop" kind path2 ";" | "alter" "table" path2 "add" name type ";"
        | ( "grant" right "on" path2 "to" | "revoke" right "on" path2 "from" ) ( name | "all" ) ";" | "create" "user" name ";"
object  = again | "table" path2 "(" ( column | constr ) { "," ( column | constr ) } ")" ";"
        | "index" path2 "on" path2 names ";"
        | "sequence" path2 "start" number "by" number "cache" integer ";"
again   = "view" path2 "as" query ";"
        | [ "invoker" ] osub | [ "invoker" ] "package" path2 "is" { decl | [ "private" ] sub } "end" ";"
        | "trigger" path2 ( "before" | "after" ) event { "or" event } "on" path2
          [ "for" "each" "row" [ "when" "(" expr ")" ] ] block
event   = "insert" | "update" [ "of" name { "," name } ] | "delete"
names   = "(" name { "," name } ")"
column  = name type [ "default" sum ] [ "not" "null" ]
constr  = "constraint" name ( "unique" names | "primary" "key" names | "check" "(" expr ")"
        | "foreign" "key" names "references" path2 ) [ "deferred" ]
right   = "select" | "insert" | "update" | "delete" | "execute"
kind    = "table" | "view" | "index" | "sequence" | "procedure" | "function" | "package" | "trigger"
number  = [ "-" ] integer
script  = { block | whole ";" | change ";" | def }
`

// unlessQuery returns a place, if no query in brackets begins there.
func (m *matcher) unlessQuery(from int) []int {
	if from+1 < len(m.tokens) && m.tokens[from].Text == "(" && m.tokens[from+1].Text == "select" {
		return nil
	}
	return []int{from}
}

// programWords returns tokens of all kinds, and all words and signs of programs, but for some of those that stand in the same places only.
func programWords() []string {
	l := []string{"x", "12", "'s'", "select", "insert", "delete", "update", "from", "where", "(", ")", ",", ".", "=", "+", "-", "as", "by"}
	for _, word := range strings.Fields(programs) {
		if word[0] == '"' && !slices.Contains(l, strings.Trim(word, `"`)) {
			l = append(l, strings.Trim(word, `"`))
		}
	}
	return slices.DeleteFunc(l, func(s string) bool {
		return slices.Contains(strings.Fields("text bool out primary execute revoke group having distinct sequence after"), s)
	})
}

func newProgramComparer(t *testing.T, rule string) *comparer {
	c := newComparer(t, rule)
	c.words = programWords()
	return c
}

// blockParts returns what may stand in a block: declarations, statements, handlers.
func blockParts() (decls, stmts, handlers []string) {
	decls = []string{"a int ;", "b text := 'x' || c ;", "c array of bool ;", "cursor d is select * from t for update ;", "e exception ;"}
	stmts = []string{
		"null ;", "begin null ; end ;", "declare x int ; begin null ; exception when a then null ; end ;", "exit ;", "exit when a or b ;", "return ;", "return - a ;", "raise ;", "raise a ;",
		"a := 1 ;", "a . b . c := d ;", "a ( 1 ) := not b ;", ": new . a := 1 ;", "a ;", "a . b ( ) ;", "a . b . c ( 1 , d ) ;",
		"if a then null ; end if ;", "if a then b ; elsif c then d ; else e ; end if ;", "loop exit ; end loop ;", "while a loop null ; end loop ;",
		"for a in 1 .. b loop null ; end loop ;", "for a in reverse ( select b from t ) .. 5 loop end loop ;", "for a in ( b ) + 1 .. 2 loop end loop ;", "for a in b . c .. d loop end loop ;", "for a in ( select b from t for update ) loop c ; end loop ;", "for a in b loop c ; end loop ;",
		"select a into b from t ;", "select distinct a as b , c bulk collect into d , e ( 1 ) , : new . f from t x where g group by h having i order by j desc for update ;",
		"open a ;", "close a ;", "fetch a into b , c ( 1 ) ;", "fetch a bulk collect into b limit 5 ;",
		"forall a in 1 .. ( select b from t ) insert into t values ( a ) ;", "insert into t select * from u ;", "update t set a = 1 ;", "delete from t where a ;", "commit ;", "rollback ;", "rollback to a ;", "savepoint a ;",
	}
	return decls, stmts, []string{"when a then null ;", "when a or b or c then", "when others then raise ; d ;"}
}

// defSamples returns definitions of all kinds.
func defSamples() []string {
	return []string{
		"create table u . t ( a int default - 1 not null , constraint p primary key ( a ) deferred , b text , constraint q unique ( a , b ) , constraint c check ( a > 0 ) , constraint f foreign key ( a ) references v . w ) ;",
		"create index i on u . t ( a , b ) ;", "create sequence s start - 1 by 2 cache 5 ;", "create view v as select a from t ;", "create or replace view u . v as select * from t where a ;",
		"create procedure p is begin null ; end ;", "create or replace invoker function u . f ( a int , b in text , c out bool , d in out array of int ) return int autonomous is x int ; begin return a ; exception when b then null ; end ;",
		"create invoker package p is x int := 1 ; procedure q is begin null ; end ; private function r return bool is begin end ; e exception ; end ;", "create or replace package p is end ;",
		"create trigger g before insert or update of a , b or delete on u . t for each row when ( : new . a > 1 ) begin : new . a := 1 ; end ;", "create or replace trigger g after update on t declare x int ; begin end ;", "create trigger g after delete on t for each row begin end ;",
		"drop function u . f ;", "drop procedure p ;", "drop table t ;", "drop view v ;", "drop index i ;", "drop sequence s ;", "drop package p ;", "drop trigger g ;", "alter table u . t add a bool ;",
		"grant select on u . t to all ;", "grant execute on p to a ;", "revoke update on t from a ;", "create user a ;",
	}
}

// P5.1: statements, declarations and handlers of all kinds, and what is beside them, are read as the grammar says.
func TestChangedBlocks(t *testing.T) {
	c := newProgramComparer(t, "block")
	decls, stmts, handlers := blockParts()
	for _, s := range decls {
		c.around("declare " + s + " begin end ;")
	}
	for _, s := range stmts {
		c.around("begin " + s + " end ;")
	}
	for _, s := range handlers {
		c.around("begin exception " + s + " end ;")
	}
	c.expect(1000)
}

// P5.2: definitions of all kinds, and what is beside them, are read as the grammar says.
func TestChangedDefs(t *testing.T) {
	c := newProgramComparer(t, "def")
	for _, s := range defSamples() {
		c.around(s)
	}
	c.expect(300)
}

// P5.3: scripts, and what is beside them, are read as the grammar says.
func TestChangedScripts(t *testing.T) {
	c := newProgramComparer(t, "script")
	c.around("begin null ; end ; select a from t for update ; insert into t values ( 1 ) ; create user a ;")
	c.around("drop table t ; declare begin end ; delete from t ;")
	c.expect(50)
}

// longer compares strings of some words and of more and more tokens behind them, as long as what is there already may begin a script.
func (c *comparer) longer(many int, words ...string) {
	c.compare(words...)
	if f, _ := parse(c.rule, strings.Join(words, " ")); many == 0 || f.Code == api.ErrSyntax {
		return
	}
	for _, word := range c.words {
		c.longer(many-1, append(slices.Clone(words), word)...)
	}
}

// P5.1 to P5.3: short strings of all tokens are read as the grammar says, behind what may be the beginning of a script.
func TestShortPrograms(t *testing.T) {
	_, stmts, _ := blockParts()
	begins := []string{"", "declare", "begin", "begin x ;", "begin exception", "begin exception when x then", "create", "create or replace", "create invoker", "create package p is", "create package p is private", "create procedure p ( a", "create table t ( a int"}
	for _, s := range append(stmts, defSamples()...) {
		begin := ""
		if slices.Contains(stmts, s) {
			begin = "begin "
		}
		begins = append(begins, begin+strings.Join(strings.Fields(s)[:2], " "))
	}
	c := newProgramComparer(t, "script")
	for _, begin := range begins {
		c.longer(2, strings.Fields(begin)...)
	}
	c.expect(10)
}
