package unit_test

import (
	"strings"
	"testing"

	"justiciar/api"
	"justiciar/unit"
)

// P5.1
func TestParseBlock(t *testing.T) { expectTrees(t, blocks(), blockSamples()) }

// P5.2
func TestParseDef(t *testing.T) { expectTrees(t, defs(), defSamples()) }

// itemSamples returns items of all kinds, alone.
func itemSamples() []sample[[]unit.Item] {
	var l []sample[[]unit.Item]
	add := func(text, want string, x unit.Item) {
		l = append(l, sample[[]unit.Item]{text, []unit.Item{x}, want + "\n"})
	}
	for _, x := range blockSamples() {
		add(x.text, x.want, unit.Item{Block: []api.Block{x.tree}})
	}
	for _, x := range defSamples() {
		add(x.text, x.want, unit.Item{Def: []api.Def{x.tree}})
	}
	for _, s := range []string{"select a from t;", "select * from u.t where a for update;"} {
		add(s, strings.NewReplacer(";", " ;", "u.t", "u . t").Replace(s), unit.Item{Query: []api.Query{qu(strings.Trim(s, ";"))}})
	}
	for _, s := range []string{"insert into t select a from t;", "update t set a = 1;", "delete from t where a;"} {
		add(s, strings.Replace(s, ";", " ;", 1), unit.Item{Change: []api.Change{ch(strings.Trim(s, ";"))}})
	}
	return l
}

// P5.3
func TestParse(t *testing.T) {
	l := append(itemSamples(), sample[[]unit.Item]{})
	expectTrees(t, scripts(), l)
	var all sample[[]unit.Item]
	for i := 0; i < len(l); i += 2 {
		all.text, all.tree, all.want = all.text+l[i].text, append(all.tree, l[i].tree...), all.want+l[i].want
	}
	expectTrees(t, scripts(), []sample[[]unit.Item]{all})
}

func expectPlaces[T any](t *testing.T, k kind[T], l map[string]string) {
	t.Helper()
	for s, want := range l {
		if got := places(k.tree(t, s)); got != want {
			t.Errorf("%q: %s, want %s", s, got, want)
		}
	}
}

// P5.1: statements, declarations and handlers begin at their first tokens, expressions, queries and changes as layers 3 and 4 say.
func TestPositions(t *testing.T) {
	expectPlaces(t, blocks(), map[string]string{
		"\n declare\n a int := 1 ;cursor b is\n select c from t; d\n exception;begin end;":        "Decl@3:2 Expr@3:11 Decl@3:14 Query@4:2 Expr@4:9 Source@4:16 Decl@4:19",
		"begin exception\n when a\n or b then null; when c then\n d;end;":                         "Handler@2:2 Stmt@3:12 Handler@3:18 Stmt@4:2",
		"begin null; commit;\nrollback to a;  savepoint b;end;":                                   "Stmt@1:7 Stmt@1:13 Stmt@2:1 Stmt@2:17",
		"begin a:=1; a . b ( 2 )\n:=c;:\nnew.a:=b+c; a; b.c(d);end;":                              "Stmt@1:7 Expr@1:7 Expr@1:10 Stmt@1:13 Expr@1:13 Expr@1:21 Expr@2:3 Stmt@2:5 Expr@2:5 Expr@3:9 Expr@3:8 Expr@3:10 Stmt@3:13 Stmt@3:16 Expr@3:20",
		"begin exit; exit when a; return; return (b);\n raise; raise c; end;":                     "Stmt@1:7 Stmt@1:13 Expr@1:23 Stmt@1:26 Stmt@1:34 Expr@1:42 Stmt@2:2 Stmt@2:9",
		"begin declare\na int;begin b; end;\n begin null;end;end;":                                "Stmt@1:7 Decl@2:1 Stmt@2:13 Stmt@3:2 Stmt@3:8",
		"begin if a then b; elsif c then d;\n else if e then f; end if; end if; end;":             "Stmt@1:7 Expr@1:10 Expr@1:26 Stmt@1:17 Stmt@1:33 Stmt@2:7 Expr@2:10 Stmt@2:17",
		"begin loop a; end loop; while b loop c; end loop; end;":                                  "Stmt@1:7 Stmt@1:12 Stmt@1:25 Expr@1:31 Stmt@1:38",
		"begin for a in b..c loop d; end loop; for a in reverse (b)..-c\n loop end loop; end;":    "Stmt@1:7 Expr@1:16 Expr@1:19 Stmt@1:26 Stmt@1:39 Expr@1:57 Expr@1:61 Expr@1:62",
		"begin for a in (\nselect b from c) loop d; end loop; for a in b\nloop c; end loop; end;": "Stmt@1:7 Stmt@2:23 Query@2:1 Expr@2:8 Source@2:15 Stmt@2:36 Stmt@3:6",
		"begin select a\n bulk collect into b, c(1) from d; fetch a into b,\n :new.c; end;":       "Stmt@1:7 Expr@2:20 Expr@2:23 Expr@2:25 Query@1:7 Expr@1:14 Source@2:33 Stmt@2:36 Expr@2:49 Expr@3:2",
		"begin open a; close a; fetch a bulk collect into b limit c; delete from d where e; end;": "Stmt@1:7 Stmt@1:15 Stmt@1:24 Expr@1:50 Expr@1:58 Stmt@1:61 Change@1:61 Expr@1:81",
		"begin\nforall a in b..c update d set e = f; insert into t\nselect a from t; end;":        "Stmt@2:1 Expr@2:13 Expr@2:16 Change@2:18 Expr@2:35 Stmt@2:38 Change@2:38 Query@3:1 Expr@3:8 Source@3:15",
	})
}

// P5.2: definitions, subs and parameters begin at their first tokens; what is dropped has no position.
func TestPositionsOfDefs(t *testing.T) {
	expectPlaces(t, defs(), map[string]string{
		"\n create\n table t (a int default b, constraint c check (d));":                                                   "Def@2:2 Expr@3:25 Expr@3:48",
		"create or replace view v as\n select a from t;":                                                                   "Def@1:1 Query@2:2 Expr@2:9 Source@2:16",
		"create\ninvoker procedure p (a int, b\nin out array of text) is c int; begin d; end;":                             "Def@1:1 Sub@2:9 Param@2:22 Param@2:29 Decl@3:26 Stmt@3:39",
		"create function u.f return int is begin exception when a then b; end;":                                            "Def@1:1 Sub@1:8 Handler@1:51 Stmt@1:63",
		"create package k is private\nprocedure a is begin end; b int;\n function c (d int) return int is begin end; end;": "Def@1:1 Decl@2:27 Sub@2:1 Sub@3:2 Param@3:14",
		"create or replace\ntrigger g before update on t for each row\nwhen (a) declare b int; begin c; end;":              "Def@1:1 Sub@2:1 Decl@3:18 Stmt@3:31 Expr@3:7",
		" drop function f;":             "Def@1:2 Sub@0:0",
		"\ngrant select on t to a;":     "Def@2:1",
		"alter table t add a int;":      "Def@1:1",
		"--\n  create\nuser a;":         "Def@2:3",
		"create index i on t (a);":      "Def@1:1",
		"revoke select on t from a\n ;": "Def@1:1",
	})
}

// P5.3: items begin at their first tokens.
func TestPositionsOfItems(t *testing.T) {
	expectPlaces(t, scripts(), map[string]string{
		" declare begin end; select a from t;\n\n delete from t;--\ncreate user a;": "Item@1:2 Item@1:21 Query@1:21 Expr@1:28 Source@1:35 Item@3:2 Change@3:2 Item@4:1 Def@4:1",
	})
}
