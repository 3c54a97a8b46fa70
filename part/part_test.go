package part_test

import (
	"fmt"
	"slices"
	"strings"
	"testing"

	"justiciar/api"
	"justiciar/grammar"
	"justiciar/part"
	"justiciar/unit"
)

// called returns what a part is.
func called(p part.Part) string {
	switch {
	case p.Stmt != nil:
		return fmt.Sprintf("s%d@%d", p.Stmt.Op, p.Level)
	case p.Decl != nil:
		return "d:" + p.Decl.Name
	case p.Handler != nil:
		return "h:" + strings.Join(p.Handler.Names, "+")
	case p.Sub != nil:
		return "f:" + p.Sub.Name
	}
	s, code := grammar.Text(p.Node)
	if code != api.OK {
		return fmt.Sprint("error ", code)
	}
	return s
}

// expectParts expects that a method shows these parts, and no more after the one with which a closure is content.
func expectParts(t *testing.T, what string, show func(look part.Looker) bool, want ...string) {
	t.Helper()
	for most := 1; most <= len(want)+1; most++ {
		var l []string
		all := show(func(p part.Part) bool {
			l = append(l, called(p))
			return len(l) < most
		})
		if !slices.Equal(l, want[:min(most, len(want))]) || all != (most > len(want)) {
			t.Fatalf("%s: %v, %q, want %q", what, all, l, want[:min(most, len(want))])
		}
	}
}

func TestObject(t *testing.T) {
	for _, x := range []struct {
		text string
		want []string
	}{
		{"create table t (a int default 1, b int, c text default 'x', constraint p primary key (a), constraint q check (a > 0), constraint f foreign key (a) references t, constraint r check (b > 0));", []string{"1", "'x'", "a > 0", "b > 0"}},
		{"create index i on t (a);", nil},
		{"create sequence s start 1 by 1 cache 1;", nil},
		{"create view v as select a from t where b;", []string{"select a from t where b"}},
		{"create procedure p (a int) is x int := 1; cursor c is select a from t; e exception; begin p(1, 2); x := 3; exception when a or b then x(1) := 4; when others then null; end;",
			[]string{"f:p", "d:x", "1", "d:c", "select a from t", "d:e", "s11@1", "1", "2", "s1@1", "x", "3", "h:a+b", "s1@2", "x ( 1 )", "4", "h:others", "s10@2"}},
		{"create package k is x int := 1; procedure p is begin begin null; end; end; y int; function f return int is begin return 1; end; end;",
			[]string{"d:x", "1", "d:y", "f:p", "s12@1", "s10@2", "f:f", "s8@1", "1"}},
		{"create trigger g before update of a on t for each row when (:new.a = 1) begin delete from t where a; end;", []string{": new . a = 1", "f:g", "s14@1", "delete from t where a"}},
		{"create procedure p is begin if a then null; elsif b then raise e; else begin commit; exception when e then close c; end; end if; end;",
			[]string{"f:p", "s2@1", "a", "b", "s10@2", "s9@2", "s12@2", "s19@3", "h:e", "s18@4"}},
		{"create procedure p is begin loop exit when a; end loop; while b loop null; end loop; for i in 1 .. 2 loop null; end loop; for r in (select a from t) loop null; end loop; end;",
			[]string{"f:p", "s3@1", "s7@2", "a", "s4@1", "b", "s10@2", "s5@1", "1", "2", "s10@2", "s6@1", "s10@2", "select a from t"}},
		{"create procedure p is begin select a into x, y(1) from t; fetch c bulk collect into z limit 3; forall i in 1 .. 2 update t set a = i; end;",
			[]string{"f:p", "s13@1", "x", "y ( 1 )", "select a from t", "s17@1", "z", "3", "s15@1", "1", "2", "update t set a = i"}},
	} {
		d, f := unit.ParseDef(x.text)
		if f != (api.Fault{}) {
			t.Fatalf("%s: %v", x.text, f)
		}
		expectParts(t, x.text, func(look part.Looker) bool { return look.Object(&d.Object) }, x.want...)
		for i := range d.Object.Unit {
			expectParts(t, x.text, func(look part.Looker) bool { return look.Unit(&d.Object.Unit[i]) }, x.want...)
		}
	}
}

func TestOthers(t *testing.T) {
	l, f := unit.Parse("declare x int; begin null; end; select a from t; delete from t;")
	if f != (api.Fault{}) {
		t.Fatal(f)
	}
	expectParts(t, "a block", func(look part.Looker) bool { return look.Block(&l[0].Block[0], 7) }, "d:x", "s10@7")
	expectParts(t, "a query", func(look part.Looker) bool { return look.Query(&l[1].Query[0]) }, "select a from t")
	expectParts(t, "a change", func(look part.Looker) bool { return look.Change(&l[2].Change[0]) }, "delete from t")
}
