package unit_test

import (
	"fmt"
	"slices"
	"strings"
	"testing"

	"justiciar/api"
	"justiciar/unit"
)

// expectLimit looks at a string with what is valid, and at one that is of the form, but not valid: at positions of their own, with more behind, and as an item.
func expectLimit[T any](t *testing.T, k kind[T], valid, wrong string, code api.Errno) {
	t.Helper()
	if x := k.tree(t, valid); !k.valid(x) {
		t.Errorf("%.300q is not valid", valid)
	}
	k.expectFault(t, wrong, code, "", 1, 1)
	k.expectFault(t, "\n--\n  "+wrong+" -- a", code, "", 3, 3)
	k.expectFault(t, " "+strings.Replace(wrong, " ", "\n", 1), code, "", 1, 2)
	k.expectFault(t, wrong[:len(wrong)-1], api.ErrEnd, "", 1, len(wrong))
	k.expectFault(t, wrong[:len(wrong)-1]+")", api.ErrSyntax, ")", 1, len(wrong))
	k.expectFault(t, wrong[:len(wrong)-1]+"?", api.ErrLex, "?", 1, len(wrong))
	k.expectFault(t, wrong+" ?", api.ErrLex, "?", 1, len(wrong)+2)
	l := "begin null; end;\n" + wrong
	scripts().expectFault(t, l, code, "", 2, 1)
	for _, more := range []string{")", "a", "begin end;", ";", "end;", "null; )", "'a'", "1", "select"} {
		k.expectFault(t, wrong+" "+more, api.ErrSyntax, nameOf(t, more), 1, len(wrong)+2)
		scripts().expectFault(t, l+" "+more, code, "", 2, 1)
	}
}

// expectMost looks at frames, with as many of something in them as there may be, and with one more.
func expectMost[T any](t *testing.T, k kind[T], frames map[string]int, write func(n int) string) {
	t.Helper()
	for frame, most := range frames {
		expectLimit(t, k, strings.Replace(frame, "#", write(most), 1), strings.Replace(frame, "#", write(most+1), 1), api.ErrLimit)
	}
}

// P5.1, P5.2: 50 statements in a row, wherever they stand.
func TestMaxRow(t *testing.T) {
	for _, s := range []string{"null;", "begin end;", "a := 1;", "if a then b; end if;"} {
		write := func(n int) string { return strings.Repeat(s, n) }
		expectMost(t, blocks(), map[string]int{
			"begin # end;": 50, "begin exception when a then # end;": 50, "begin exception when a then null; when b then # when c then end;": 50, "begin begin # end; end;": 50, "begin declare a int; begin exception when a then # end; end;": 50,
			"begin if a then # end if; end;": 50, "begin if a then elsif b then # else null; end if; end;": 50, "begin if a then else # end if; end;": 50, "begin loop # end loop; end;": 50, "begin while a loop # end loop; end;": 50,
			"begin for a in 1..2 loop # end loop; end;": 50, "begin for a in (select b from t) loop # end loop; end;": 50, "begin for a in b loop # end loop; end;": 50, "begin null; # end;": 49, "begin loop # exit; end loop; end;": 49,
		}, write)
		expectMost(t, defs(), map[string]int{"create procedure p is begin # end;": 50, "create package k is procedure p is begin end; function f return int is begin exception when a then # end; end;": 50, "create trigger g after insert on t begin # end;": 50}, write)
	}
}

// P5.1, P5.2: 60 declarations, 20 handlers, 20 names of one.
func TestMaxDecls(t *testing.T) {
	for _, s := range []string{"a int;", "cursor a is select b from t;", "a exception;"} {
		write := func(n int) string { return strings.Repeat(s, n) }
		expectMost(t, blocks(), map[string]int{"declare # begin end;": api.MaxVars, "declare a int; # begin end;": api.MaxVars - 1, "begin declare # begin end; end;": api.MaxVars, "begin loop declare # begin end; end loop; end;": api.MaxVars}, write)
		expectMost(t, defs(), map[string]int{"create procedure p is # begin end;": api.MaxVars, "create package k is # end;": api.MaxVars, "create package k is a int; procedure p is begin end; # end;": api.MaxVars - 1, "create package k is procedure p is # begin end; end;": api.MaxVars, "create trigger g after insert on t declare # begin end;": api.MaxVars}, write)
	}
	handlers := func(n int) string { return strings.Repeat("when a then null;", n) }
	names := func(n int) string { return counted(n, " or ") }
	for frame, write := range map[string]func(n int) string{"begin exception # end;": handlers, "begin begin exception # end; end;": handlers, "begin exception when a then null; when # then null; end;": names} {
		expectMost(t, blocks(), map[string]int{frame: 20}, write)
	}
	expectMost(t, defs(), map[string]int{"create procedure p is begin exception # end;": 20}, handlers)
	expectMost(t, defs(), map[string]int{"create procedure p is begin exception when # then end;": 20}, names)
}

// P5.1, P5.2: 20 targets, columns, and so on; 10 parameters; 20 subs.
func TestMaxLists(t *testing.T) {
	list := func(n int) string { return counted(n, ",") }
	expectMost(t, blocks(), map[string]int{"begin select a into # from t; end;": api.MaxCols, "begin select a bulk collect into # from t; end;": api.MaxCols, "begin fetch a into #; end;": api.MaxCols, "begin fetch a bulk collect into # limit 5; end;": api.MaxCols, "begin select # into a from t; end;": api.MaxCols, "begin update t set a = (select # from t); end;": api.MaxCols, "begin insert into t (#) values (1); end;": api.MaxCols, "declare cursor a is select # from t; begin end;": api.MaxCols, "begin for a in (select # from t) loop end loop; end;": api.MaxCols}, list)
	expectMost(t, defs(), map[string]int{"create view v as select # from t;": api.MaxCols, "create trigger g after update of # on t begin end;": api.MaxCols, "create trigger g after insert or update of # or update of a on t begin end;": api.MaxCols, "create index i on t (#);": 8}, list)
	typed := func(n int) string { return counted(n, " int,") + " int" }
	expectMost(t, defs(), map[string]int{"create table t (#);": api.MaxCols, "create table t (a int, #);": api.MaxCols - 1, "create table t (a int, constraint c check (a), #);": api.MaxCols - 1, "create procedure p (#) is begin end;": api.MaxParams, "create function f (a int, #) return int is begin end;": api.MaxParams - 1, "create package k is procedure p is begin end; private procedure q (#) is begin end; end;": api.MaxParams}, typed)
	expectMost(t, defs(), map[string]int{"create table t (a int, #);": 10, "create table t (constraint c check (a), #, a int);": 9}, func(n int) string {
		return "constraint " + counted(n, " check (a), constraint ") + " check (a)"
	})
	events := func(n int) string { return times(n, "insert", " or ") }
	expectMost(t, defs(), map[string]int{"create trigger g before # on t begin end;": api.MaxCols, "create trigger g before update of a or # on t begin end;": api.MaxCols - 1}, events)
	subs := func(n int) string { return strings.Repeat("procedure p is begin end; ", n) }
	expectMost(t, defs(), map[string]int{"create package k is # end;": api.MaxSubs, "create package k is a int; private function f return int is begin end; # b int; end;": api.MaxSubs - 1}, subs)
}

// P5.2: 8 columns of a constraint.
func TestMaxKeys(t *testing.T) {
	for _, frame := range []string{"unique (#)", "primary key (#)", "foreign key (#) references v"} {
		expectMost(t, defs(), map[string]int{"create table t (n0 int, n1 int, n2 int, n3 int, n4 int, n5 int, n6 int, n7 int, n8 int, constraint c " + frame + ");": 8}, func(n int) string { return counted(n, ",") })
	}
}

// P5.2, P5.3: what is of the form, but not valid.
func TestNotValidDefs(t *testing.T) {
	for wrong, valid := range map[string]string{
		"create table t (a int, b text, a int);":                                                         "create table t (a int, b text, c int);",
		"create table t (a int, b text, a bool, constraint c check (a));":                                "create table t (a int, b text, c bool, constraint c check (a));",
		"create table t (constraint c check (a));":                                                       "create table t (constraint c check (a), a int);",
		"create table t (a int, constraint c check (a), constraint c unique (a));":                       "create table t (a int, constraint c check (a), constraint d unique (a));",
		"create table t (a int, constraint p primary key (a), constraint q primary key (a));":            "create table t (a int, constraint p primary key (a), constraint q unique (a));",
		"create table t (a int, constraint q unique (b));":                                               "create table t (a int, constraint a unique (a));",
		"create table t (a int, constraint p primary key (a, b));":                                       "create table t (a int, constraint p primary key (a, b), b int);",
		"create table t (a int, constraint f foreign key (b) references t);":                             "create table t (a int, constraint f foreign key (a) references t);",
		"create table t (a int, b int, constraint q unique (a, b, a));":                                  "create table t (a int, b int, constraint q unique (b, a));",
		"create table t (a int, constraint p primary key (a, a));":                                       "create table t (a int, constraint p primary key (a));",
		"create table t (a int, constraint f foreign key (a, a) references t);":                          "create table t (a int, constraint f foreign key (a) references u.t);",
		"create table t (a int default case end);":                                                       "create table t (a int default case when b then c end);",
		"create table t (a int, constraint c check (case else a end));":                                  "create table t (a int, constraint c check (f()));",
		"create index i on t (a, a);":                                                                    "create index i on t (a, b);",
		"create sequence s start 1 by 0 cache 1;":                                                        "create sequence s start 0 by 1 cache 1;",
		"create sequence s start 1 by -0 cache 1;":                                                       "create sequence s start 1 by -1 cache 1;",
		"create sequence s start 1 by 1 cache 0;":                                                        "create sequence s start 1 by 1 cache 1;",
		"create sequence s start 1 by 1 cache 101;":                                                      "create sequence s start 1 by 1 cache 100;",
		"create package k is a int := case end; end;":                                                    "create package k is a int := 1; end;",
		"create trigger g before insert on t for each row when (case end) begin end;":                    "create trigger g before insert on t for each row when (a) begin end;",
		"create procedure p is begin for a in ((select b from c)) .. 2 loop end loop; end;":              "create procedure p is begin for a in ((select b from c)) + 0 .. 2 loop end loop; end;",
		"create trigger g after insert on t begin for a in (((select b from c)))..2 loop end loop; end;": "create trigger g after insert on t begin for a in reverse (select b from c)..2 loop end loop; end;",
	} {
		expectLimit(t, defs(), valid, wrong, api.ErrLimit)
	}
}

// P5.1: what is of the form, but not valid.
func TestNotValidBlocks(t *testing.T) {
	for wrong, valid := range map[string]string{
		"begin for a in ((select b from c)) .. 2 loop end loop; end;":                "begin for a in reverse ((select b from c)) .. 2 loop end loop; end;",
		"begin loop for a in (((select b from c)))..2 loop end loop; end loop; end;": "begin for a in 1 .. (select b from c) loop end loop; end;",
		"declare a int := case end; begin end;":                                      "declare a int := case when b then c end; begin end;",
		"begin a(case else b end) := 1; end;":                                        "begin a(b) := 1; end;",
		"begin select a into b from t where case end; end;":                          "begin select a into b from t where c; end;",
		"begin exception when a then b(case end); end;":                              "begin exception when a then b(c); end;",
	} {
		expectLimit(t, blocks(), valid, wrong, api.ErrLimit)
	}
}

// nodes returns an expression of n nodes, 3 at least.
func nodes(n int) string {
	n--
	return "f(" + strings.Trim(times(n/3, "a+b", ",")+strings.Repeat(",c", n%3), ",") + ")"
}

// deep returns an expression of n levels.
func deep(n int) string { return strings.Repeat("- ", n-1) + "a" }

// P5.1, P5.2: 2,000 nodes and 40 levels of each expression, query and change, wherever it stands.
func TestMaxExprs(t *testing.T) {
	expect := func(frame string, nodesAround, levelsAround int) {
		t.Helper()
		with := func(e string) string { return strings.Replace(frame, "#", e, 1) }
		long, below := nodes(2001-nodesAround), deep(api.MaxNest+1-levelsAround)
		check := func(valid, wrong string, code api.Errno) {
			t.Helper()
			if strings.HasPrefix(frame, "create") {
				expectLimit(t, defs(), with(valid), with(wrong), code)
			} else {
				expectLimit(t, blocks(), with(valid), with(wrong), code)
			}
		}
		check(nodes(2000-nodesAround), long, api.ErrLimit)
		check(deep(api.MaxNest-levelsAround), below, api.ErrDeep)
		check(deep(api.MaxNest-levelsAround), "g("+below+", "+long+")", api.ErrLimit)
	}
	for _, frame := range []string{"begin a := #; end;", "begin a(1) := #; end;", "begin if # then null; end if; end;", "begin if a then null; elsif # then null; end if; end;", "begin while # loop null; end loop; end;", "begin for a in # .. 2 loop end loop; end;", "begin for a in 1 .. # loop end loop; end;", "begin exit when #; end;", "begin return #; end;", "begin p(1, #); end;", "begin fetch a bulk collect into b limit #; end;", "begin forall a in # .. 2 delete from t; end;", "begin exception when a then b := #; end;", "begin begin b := #; end; end;", "declare a int := #; begin end;", "begin declare a int := #; begin end; end;", "create table t (a int default #);", "create table t (a int, constraint c check (#));", "create trigger g before insert on t for each row when (#) begin end;", "create package k is a int := #; end;", "create package k is procedure p is begin a := #; end; end;", "create trigger g after insert on t begin a := #; end;", "create function f return int is a int := #; begin end;"} {
		expect(frame, 0, 0)
	}
	for _, frame := range []string{"begin a(#) := 1; end;", "begin fetch a into b(#); end;", "begin delete from t where #; end;", "begin forall a in 1 .. 2 delete from t where #; end;"} {
		expect(frame, 1, 1)
	}
	for _, frame := range []string{"begin select # into a from t; end;", "begin for a in (select # from t) loop end loop; end;", "declare cursor a is select # from t; begin end;", "create view v as select # from t;", "create package k is cursor a is select # from t; end;"} {
		expect(frame, 2, 1)
	}
}

// within returns frames, each in the one before it, with something in the last one.
func within(n int, frame, s string) string {
	before, behind, _ := strings.Cut(frame, "#")
	return strings.Repeat(before, n) + s + strings.Repeat(behind, n)
}

// P5.1, P5.2: 40 levels of statements. Those of handlers are one level deeper than those of their block.
func TestMaxLevels(t *testing.T) {
	for _, frame := range []string{"begin # end;", "if a then # end if;", "if a then b; elsif c then # end if;", "if a then else # end if;", "loop # end loop;", "while a loop # end loop;", "for a in 1..2 loop # end loop;", "for a in (select b from t) loop # end loop;", "for a in b loop c; # end loop;", "declare a int; begin # exception when b then end;"} {
		for _, s := range []string{"null;", "begin end;", "loop end loop;"} {
			valid, wrong := within(api.MaxNest-1, frame, s), within(api.MaxNest, frame, s)
			expectLimit(t, blocks(), "begin "+valid+" end;", "begin "+wrong+" end;", api.ErrDeep)
			expectLimit(t, defs(), "create procedure p is begin "+valid+" end;", "create procedure p is begin "+wrong+" end;", api.ErrDeep)
		}
		handled := "begin exception when a then " + within(api.MaxNest-2, frame, "null;") + " end;"
		expectLimit(t, blocks(), handled, strings.Replace(handled, "null;", within(1, frame, "null;"), 1), api.ErrDeep)
		expectLimit(t, defs(), "create trigger g after insert on t "+handled, "create trigger g after insert on t "+strings.Replace(handled, "null;", within(1, frame, "null;"), 1), api.ErrDeep)
	}
	handlers := func(n int) string { return within(n, "begin exception when a then # end;", "null;") }
	expectLimit(t, blocks(), handlers(20), strings.Replace(handlers(20), "null;", "loop null; end loop;", 1), api.ErrDeep)
	expectLimit(t, blocks(), handlers(20), handlers(21), api.ErrDeep)
	expectLimit(t, blocks(), "begin if a then b; end if; end;", "begin "+within(api.MaxNest, "loop # end loop;", "if a then begin end; end if;")+" end;", api.ErrDeep)
	expectLimit(t, blocks(), "begin null; end;", "begin "+within(api.MaxNest, "loop # end loop;", "null;")+strings.Repeat("null;", 50)+" end;", api.ErrLimit)
	expectLimit(t, blocks(), "begin null; end;", "declare a int := "+deep(api.MaxNest+1)+"; begin for a in ((select b from t)) .. 2 loop end loop; end;", api.ErrLimit)
}

// P5.3: 100 items. The one beyond them is too many as soon as it begins, and the first fault counts.
func TestMaxItems(t *testing.T) {
	for _, s := range []string{"begin end; ", "select a from t; ", "delete from t; ", "drop table t; "} {
		l := strings.Repeat(s, 100)
		if got := scripts().tree(t, l); len(got) != 100 {
			t.Error(s, len(got))
		}
		for _, more := range []string{s, s + s, "begin end;", "select a from t;", "insert into t values (1);", "create user a;", "declare", "update )", "grant 1", "begin " + strings.Repeat("null;", 51) + " end;"} {
			scripts().expectFault(t, l+more, api.ErrLimit, "", 1, len(l)+1)
		}
		scripts().expectFault(t, l+")", api.ErrSyntax, ")", 1, len(l)+1)
		scripts().expectFault(t, l+"?", api.ErrLex, "?", 1, len(l)+1)
		scripts().expectFault(t, ") "+l+s, api.ErrSyntax, ")", 1, 1)
		scripts().expectFault(t, strings.Replace(l, s, strings.Replace(s, ";", ")", 1), 1)+s, api.ErrSyntax, ")", 1, strings.Index(s, ";")+1)
	}
	items := slices.Repeat([]unit.Item{{Block: []api.Block{{}}}}, 101)
	if s, code := unit.Text(items); s != "" || code != api.ErrLimit {
		t.Errorf("%q %d", s, code)
	}
	items[7].Block = nil
	if s, code := unit.Text(items); s != "" || code != api.ErrLimit {
		t.Errorf("%q %d", s, code)
	}
	if s, code := unit.Text(items[:100]); s != "" || code != api.ErrArg {
		t.Errorf("%q %d", s, code)
	}
}

// P5.3: what is not valid in an item is found at its first token, ahead of all behind it, but behind all before it.
func TestFlawsOfItems(t *testing.T) {
	for _, item := range []string{"select " + counted(21, ",") + " from t;", "insert into t values (" + counted(21, ",") + ");", "update t set " + counted(21, " = 1, ") + " = 1;", "create index i on t (a, a);", "begin " + strings.Repeat("null;", 51) + " end;"} {
		for _, before := range []string{"", "select a from t; ", "drop table t; begin null; end; "} {
			scripts().expectFault(t, before+item, api.ErrLimit, "", 1, len(before)+1)
			scripts().expectFault(t, before+item+" ) ;", api.ErrLimit, "", 1, len(before)+1)
			scripts().expectFault(t, before+item+item, api.ErrLimit, "", 1, len(before)+1)
			scripts().expectFault(t, before+item+" select "+deep(40)+" from t;", api.ErrLimit, "", 1, len(before)+1)
			scripts().expectFault(t, before+"select "+deep(40)+" from t; "+item, api.ErrDeep, "", 1, len(before)+1)
			scripts().expectFault(t, before+item[:len(item)-1]+" )", api.ErrSyntax, ")", 1, len(before)+len(item)+1)
			scripts().expectFault(t, before+") "+item, api.ErrSyntax, ")", 1, len(before)+1)
		}
	}
}

// filled returns a block with a string of n bytes, 800 at least.
func filled(n int) api.Block {
	full := api.Expr{Op: api.EConst, Val: api.Value{Kind: api.VText, Text: strings.Repeat("x", api.MaxText)}}
	rest := n - len("begin put ( 'x' ) ; end ;") // of a call with one string of one byte, each further byte or string on top of it
	args := []api.Expr{full}
	for rest -= api.MaxText - 1; rest > 0; rest -= len(" , ''") + len(args[len(args)-1].Val.Text) {
		next := full
		next.Val.Text = next.Val.Text[:min(api.MaxText, max(rest-len(" , ''"), 0))]
		args = append(args, next)
	}
	return api.Block{Body: row(api.Stmt{Op: api.SCall, Path: path("put"), Exprs: args})}
}

// P5.1 to P5.3: strings of MaxSource bytes and MaxTokens tokens, and one more.
func TestMaxText(t *testing.T) {
	expect := func(what string, size int, s string, code api.Errno, fits bool) {
		t.Helper()
		if fits && (code != api.OK || len(s) != size) || !fits && (code != api.ErrLimit || s != "") {
			t.Errorf("%s, %d: %d bytes, error %d", what, size, len(s), code)
		}
	}
	for _, n := range []int{api.MaxSource - 2, api.MaxSource - 1, api.MaxSource, api.MaxSource + 1} {
		b := filled(n)
		s, code := unit.TextBlock(b)
		expect("block", n, s, code, n <= api.MaxSource)
		s, code = unit.Text([]unit.Item{{Block: []api.Block{b}}})
		expect("script", n+1, s, code, n+1 <= api.MaxSource)
		half := filled(n - 9000)
		s, code = unit.Text([]unit.Item{{Block: []api.Block{filled(9000)}}, {Block: []api.Block{half}}})
		expect("script of two", n+2, s, code, n+2 <= api.MaxSource)
		const around = len("create procedure p is ")
		s, code = unit.TextDef(created(program("", procedure("p", filled(n-around)))))
		expect("definition", n, s, code, n <= api.MaxSource)
	}
	for _, n := range []int{1996, 1997, 1998} {
		b := api.Block{Body: row(call("a", slices.Repeat([]string{"1"}, n)...))} // 2n + 6 tokens
		s, code := unit.TextBlock(b)
		expect(fmt.Sprint(2*n+6, " tokens"), 4*n+17, s, code, 2*n+6 <= api.MaxTokens)
		s, code = unit.Text([]unit.Item{{Block: []api.Block{{}}}, {Block: []api.Block{b}}})
		expect(fmt.Sprint(2*n+9, " tokens"), 4*n+30, s, code, 2*n+9 <= api.MaxTokens)
	}
	b := api.Block{Body: row(call("a", slices.Repeat([]string{"1"}, 1994)...))}
	s, code := unit.Text([]unit.Item{{Block: []api.Block{{}}}, {Block: []api.Block{b}}, {Block: []api.Block{{}}}})
	expect("4000 tokens", 4*1994+42, s, code, true)
}
