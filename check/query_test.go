package check_test

import (
	"fmt"
	"strings"
	"testing"

	"justiciar/api"
	"justiciar/catalog"
	"justiciar/check"
)

// P10.1: queries into targets, and cursors.
func TestInto(t *testing.T) {
	x := call{world(t), "u"}
	x.expectRightStmts(t,
		"select x into n from t;", "select x, y, z into n, b, yes from t where x = a;", "select null, x into str, nums(1) from t;", "select x into pack.n from t where x = n for update;",
		"select x, y bulk collect into nums, lo from t;", "select x bulk collect into lb from v;", "select null bulk collect into yeses from t;", "select x bulk collect into pack.l from t;",
		"open cur; fetch cur into n, str; close cur;", "fetch cur into nums(n), lo(2);", "fetch cur bulk collect into nums, strs;", "fetch cur bulk collect into nums, strs limit n + 1;", "fetch cur bulk collect into nums, strs limit null;")
	x.expectStmts(t,
		expected{"select ^zzz into none from t;", api.ErrName, "zzz"},
		expected{"select x into none from ^nix;", api.ErrName, "nix"},
		expected{"select x, 1 ^+ y into none from t;", api.ErrType, "+"},
		expected{"select x, (select y from t where ^1) into none from t;", api.ErrType, ""},
		expected{"select x into ^none from t;", api.ErrName, "none"},
		expected{"select x, y into n, ^a, zzz from t;", api.ErrKind, "a"},
		expected{"select x, y into str, ^i, zzz from t;", api.ErrKind, "i"},
		expected{"select x into ^nums from t;", api.ErrKind, "nums"},
		expected{"select x into nums(^zzz) from t;", api.ErrName, "zzz"},
		expected{"select x into ^f(1) from t;", api.ErrKind, "f"},
		expected{"select x into ^:new.x from t;", api.ErrName, "new.x"},
		expected{"^select x into str, str from t;", api.ErrCount, ""},
		expected{"^select x, y into str from t;", api.ErrCount, ""},
		expected{"select x into ^str from t;", api.ErrType, "str"},
		expected{"select x, y into n, ^yes from t;", api.ErrType, "yes"},
		expected{"select y, x into strs(1), ^strs(2) from t;", api.ErrType, "strs"},
		expected{"select x bulk collect into ^none from t;", api.ErrName, "none"},
		expected{"select x bulk collect into ^n from t;", api.ErrKind, "n"},
		expected{"select x bulk collect into ^r from t;", api.ErrKind, "r"},
		expected{"select x bulk collect into ^li from t;", api.ErrKind, "li"},
		expected{"select x bulk collect into ^nums(1) from t;", api.ErrKind, "nums"},
		expected{"select x bulk collect into nums(^zzz) from t;", api.ErrName, "zzz"},
		expected{"select x bulk collect into ^f(1) from t;", api.ErrKind, "f"},
		expected{"select x bulk collect into ^pack.n from t;", api.ErrKind, "pack.n"},
		expected{"select x bulk collect into ^:new.x from t;", api.ErrName, "new.x"},
		expected{"^select x bulk collect into strs, strs from t;", api.ErrCount, ""},
		expected{"select x bulk collect into ^strs from t;", api.ErrType, "strs"},
		expected{"select x, y bulk collect into nums, ^nums from t;", api.ErrType, "nums"},
		expected{"^fetch none into zzz;", api.ErrName, "none"},
		expected{"^fetch n into zzz;", api.ErrKind, "n"},
		expected{"^fetch t into zzz;", api.ErrKind, "t"},
		expected{"^fetch r into zzz;", api.ErrKind, "r"},
		expected{"fetch cur into ^zzz;", api.ErrName, "zzz"},
		expected{"fetch cur into str, ^i, zzz;", api.ErrKind, "i"},
		expected{"^fetch cur into str;", api.ErrCount, "cur"},
		expected{"^fetch cur into n, str, str;", api.ErrCount, "cur"},
		expected{"fetch cur into n, ^n;", api.ErrType, "n"},
		expected{"fetch cur into ^str, n;", api.ErrType, "str"},
		expected{"fetch cur bulk collect into nums, ^n limit zzz;", api.ErrKind, "n"},
		expected{"^fetch cur bulk collect into nums limit zzz;", api.ErrCount, "cur"},
		expected{"fetch cur bulk collect into ^strs, nums limit zzz;", api.ErrType, "strs"},
		expected{"fetch cur bulk collect into nums, strs limit ^zzz;", api.ErrName, "zzz"},
		expected{"fetch cur bulk collect into nums, strs limit ^yes;", api.ErrType, "yes"},
		expected{"^open none;", api.ErrName, "none"},
		expected{"^open nums;", api.ErrKind, "nums"},
		expected{"^open e;", api.ErrKind, "e"},
		expected{"^open run;", api.ErrKind, "run"},
		expected{"^open sqlcode;", api.ErrKind, "sqlcode"},
		expected{"^close none;", api.ErrName, "none"},
		expected{"^close i;", api.ErrKind, "i"},
		expected{"^close me;", api.ErrKind, "me"},
	)
	x.expect(t, "create procedure q is y text; begin select x into ^y from t; end;", api.ErrType, "y")
	row := func(when, stmt string) string {
		return "create trigger g1 " + when + " insert on t for each row declare l array of int; begin " + stmt + " end;"
	}
	x.expectRight(t, row("before", "select x into :new.x from t where x = :new.x;"), row("before", "select a, b into :new.x, :new.y from s where a = :old.x;"))
	x.expectAll(t,
		expected{row("after", "select x into ^:new.x from t;"), api.ErrKind, "new.x"},
		expected{row("before", "select x into ^:new.y from t;"), api.ErrType, "new.y"},
		expected{row("before", "select x bulk collect into ^:new.x from t;"), api.ErrKind, "new.x"},
	)
}

// P10.1: changes and queries have the faults of layer 7, of the rest of the program as its binds say.
func TestQueries(t *testing.T) {
	x := call{world(t), "u"}
	x.expectRightStmts(t,
		"insert into t values (n, str, yes);", "insert into t (x, z) values (nums(1) + i, r.z);", "insert into t (x) select a from s where b = u.pack.str;", "update t set x = x + n, y = sqlname where z and r.y = y or sqlcode = x;", "delete from t where x in (a, i, nums(n));",
		"delete from w.t where d = pack.n;", "insert into t (x) values ((select max(a) from s where b = strs(1)));", "for k in (select * from t, s where x = lb(lb(1))) loop put(k.b || k.y); end loop;",
		"update t set x = r.nix + 1 where x = r.nix;", "select x into n from t as of n where x = nums(pack.n) group by x having count(*) > nums(2) order by x;",
		"for k in (select nums(1), nums(1) as w from t) loop n := k.e1 + k.w; end loop;", "select abs(x) + abs(nums(1)) into n from t;")
	x.expectStmts(t,
		expected{"insert into t values (n, ^yes, str);", api.ErrType, "yes"},
		expected{"^insert into t values (n, str);", api.ErrCount, ""},
		expected{"^insert into t (nix) values (zzz);", api.ErrName, "nix"},
		expected{"^insert into v values (1);", api.ErrKind, "v"},
		expected{"update t set x = ^zzz;", api.ErrName, "zzz"},
		expected{"update t set x = ^str;", api.ErrType, "str"},
		expected{"update t set y = 'x' where ^n;", api.ErrType, "n"},
		expected{"^delete from none;", api.ErrName, "none"},
		expected{"delete from t where ^two = x;", api.ErrName, "two"},
		expected{"delete from t where x = ^r.two;", api.ErrName, "r.two"},
		expected{"delete from t where x = ^r.none;", api.ErrName, "r.none"},
		expected{"delete from t where x = ^nums;", api.ErrName, "nums"},
		expected{"delete from t where x = ^nums.size;", api.ErrName, "nums.size"},
		expected{"delete from t where x = ^seq.nextval;", api.ErrName, "seq.nextval"},
		expected{"delete from t where x = ^pack.none;", api.ErrName, "pack.none"},
		expected{"delete from t where x = ^pack.l;", api.ErrName, "pack.l"},
		expected{"delete from t where x = ^cur;", api.ErrName, "cur"},
		expected{"delete from t where x = ^e;", api.ErrName, "e"},
		expected{"delete from t where x = ^me;", api.ErrName, "me"},
		expected{"delete from t where x = ^f(1);", api.ErrName, "f"},
		expected{"delete from t where x = ^pack.l(1);", api.ErrName, "pack.l"},
		expected{"delete from t where ^cur%found;", api.ErrKind, "cur"},
		expected{"delete from t where x = ^:new.x;", api.ErrName, "new.x"},
		expected{"delete from t where x ^= strs(1);", api.ErrType, "="},
		expected{"delete from t where ^nums(1);", api.ErrType, "nums.element.e1"},
		expected{"delete from none where x = nums(^zzz);", api.ErrName, "zzz"},
		expected{"delete from none where x = nums(^x);", api.ErrName, "x"},
		expected{"delete from none where x = nums(^t.x);", api.ErrName, "t.x"},
		expected{"delete from none where x = nums(^'x');", api.ErrType, ""},
		expected{"delete from none where x = ^nums();", api.ErrCount, "nums"},
		expected{"delete from none where zzz = nums(1) and x = ^nums(1, zzz);", api.ErrCount, "nums"},
		expected{"delete from none where exists (select nums(^(select a from s)) from t);", api.ErrKind, ""},
		expected{"select x + nums(^zzz) into none from none;", api.ErrName, "zzz"},
		expected{"for k in (select x from none where x = strs(^yes)) loop zzz; end loop;", api.ErrType, "yes"},
		expected{"for k in (select nums(1) from t) loop put(^k.nums); end loop;", api.ErrName, "k.nums"},
	)
	x.expectRight(t, "create trigger g1 after update on t for each row begin update s set a = :new.x + :old.x where b = :old.y; end;")
	x.expect(t, "create trigger g1 after update on t for each row begin update s set a = ^:new.a; end;", api.ErrName, "new.a")
	x.expect(t, "create trigger g1 after update on t begin update s set a = ^:new.x; end;", api.ErrName, "new.x")
}

// P10.5: the binds of queries and changes.
func TestBinds(t *testing.T) {
	x := call{world(t), "u"}
	for _, one := range [][2]string{
		{"null;", ""},
		{"delete from t;", "[]"},
		{"delete from t where x = n or y = str or z = yes;", "[n int, str text, yes bool]"},
		{"delete from t where x in (a, i, r.x, a, pack.n, u.pack.n, n, i) and y in (b, sqlname, w.pack.n) and c or sqlcode = x;", "[a int, i int, r.x int, pack.n int, u.pack.n int, n int, b text, sqlname text, w.pack.n text, c bool, sqlcode int]"},
		{"insert into t values (n, str, (select z from t where x = a));", "[n int, str text, a int]"},
		{"insert into t (x) select x from t as of i where z = yes;", "[i int, yes bool]"},
		{"update t set x = n, y = str where x = a;", "[n int, str text, a int]"},
		{"select x + n, y into n, str from t as of a where x = i group by x, y, i having count(*) > r.x order by y, x;", "[n int, a int, i int, r.x int]"},
		{"select x into n from t where x = r.nix;", "[r.nix int]"},
		{"declare x text; begin delete from t where x = 1; end;", "[x text]"},
		{"delete from t where x = nums(1);", "[nums.element.e1 int]"},
		{"delete from t where x = nums(a) + i and y = strs(nums(1)) || lo(n) and x = nums(a) and x = n;", "[i int, n int, nums.element.e1 int, strs.element.e2 text, lo.element.e3 text, nums.element.e4 int]"},
		{"update t set z = yeses(1), x = lb(li(2)) where exists (select a from s where a = nums(3) and b = str);", "[a int, b text, str text, yeses.element.e1 bool, lb.element.e2 int, nums.element.e3 int]"},
		{"forall k in n .. a update t set x = k, y = strs(k) where x = n;", "[k int, n int, strs.element.e1 text]"},
		{"for k in (select x from t where x = n) loop delete from t where x = k.x; for n in cur loop delete from t where n.y = y; end loop; end loop;", "[n int] [k.x int] [n.y text]"},
		{"if yes then delete from t where x = 1; elsif yes then delete from t where x = n; else delete from t where x = a; end if;", "[] [n int] [a int]"},
		{"declare cursor d is select x from t where x = n; n text; begin delete from t where y = n; exception when others then delete from t where x = a; end; select x into n from t where x = i;", "[n int] [n text] [a int] [i int]"},
		{"open cur; fetch cur into n, str; close cur; for k in cur loop null; end loop;", ""},
		{"loop while yes loop for k in 1 .. 2 loop begin delete from t where x = k; end; end loop; end loop; end loop;", "[k int]"},
	} {
		d := defOf(t, within(one[0]))
		l, f := x.unit(t, "u", "me", api.OProc, d.Object.Unit[0])
		want := "[] []" // of the cursor, and of the loop around the statements
		if one[1] != "" {
			want += " " + one[1]
		}
		if got := shown(l); f.Code != api.OK || got != want {
			t.Errorf("%s: %v\n%s\nwant\n%s", one[0], f, got, want)
		}
	}
}

// P10.5: binds of the parts of packages and triggers, as they come in the text.
func TestBindsOfUnits(t *testing.T) {
	x := call{world(t), "u"}
	for _, one := range [][2]string{
		{"create package me is n int; l array of bool; procedure a (n text) is cursor c is select x from t where y = n; m int; begin delete from t where x = m; end; function b return int is begin delete from t where x = n and z = l(1); return 1; end; end;",
			"[n text] [m int] [n int, l.element.e1 bool]"},
		{"create trigger me before update on t for each row when (:new.x > :old.x) declare x int; begin delete from s where a = :new.x or b = :old.y or a = :old.x or a = :new.x or a = x; end;",
			"[:new.x int, :old.y text, :old.x int, x int]"},
		{"create function me (me int) return int is begin delete from t where x = me; return 1; end;", "[me int]"},
		{"create procedure me (a out text, l in out array of int) is begin delete from t where y = a or x = l(1); end;", "[a text, l.element.e1 int]"},
		{"create procedure me is begin null; end;", ""},
	} {
		d := defOf(t, one[0])
		c, code := catalog.Do(x.c, x.user, d)
		if code != api.OK {
			t.Fatal(one[0], code)
		}
		o, _ := catalog.Find(c, "u", "me")
		if l, f := x.unit(t, "u", "me", o.Kind, o.Unit[0]); f.Code != api.OK || shown(l) != one[1] {
			t.Errorf("%s: %v %s, want %s", one[0], f, shown(l), one[1])
		}
	}
}

// A query has at most 200 binds (layer 7), and elements have a bind each.
func TestManyBinds(t *testing.T) {
	x := call{world(t), "u"}
	elements := func(n int) string {
		return within("delete from t where x in (" + strings.TrimSuffix(strings.Repeat("nums(1), ", n), ", ") + ");")
	}
	x.expectRight(t, elements(200))
	d := defOf(t, elements(201))
	if f := check.Def(x.c, "u", d); f != (api.Fault{Code: api.ErrArg}) {
		t.Error(f)
	}
	if _, code := check.Binds(x.c, "u", "me", api.OProc, d.Object.Unit[0]); code != api.ErrBad {
		t.Error(code)
	}
	var l []string
	for i := range 200 {
		l = append(l, fmt.Sprintf("nums.element.e%d int", i+1))
	}
	u := defOf(t, elements(200)).Object.Unit[0]
	if got, _ := x.unit(t, "u", "me", api.OProc, u); shown(got) != "[] [] ["+strings.Join(l, ", ")+"]" {
		t.Error(shown(got))
	}
}
