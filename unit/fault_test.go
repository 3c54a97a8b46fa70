package unit_test

import (
	"strings"
	"testing"

	"justiciar/api"
	"justiciar/lex"
)

// expectSyntaxFaults expects ErrSyntax at the token behind each ^, and ErrEnd, if the string ends there, but more is needed. Strings have a ~ or a line's end between them.
func expectSyntaxFaults[T any](t *testing.T, k kind[T], frame, all string) {
	t.Helper()
	for _, s := range strings.FieldsFunc(all, func(c rune) bool { return c == '~' || c == '\n' }) {
		s = strings.Replace(frame, "#", s, 1)
		before, behind, found := strings.Cut(s, "^")
		if !found {
			t.Fatalf("no fault in %q", s)
		}
		called := nameOf(t, behind)
		k.expectFault(t, before+behind, api.ErrSyntax, called, 1, len(before)+1)
		k.expectFault(t, "--\n\n "+before+behind+" ) from 'a' ; 1", api.ErrSyntax, called, 3, len(before)+2)
		k.expectFault(t, before+behind+" ) ? '", api.ErrLex, "?", 1, len(before+behind)+4)
		if _, f := k.parse(before); f.Code != api.OK { // it is not all of the form that was read already
			k.expectFault(t, "\n"+before, api.ErrEnd, "", 2, len(before)+1)
		}
	}
}

const stmtFaults = `^1;~^'a';~^(a);~^then~^int;~^=~^;~^:=~^.~^new.a := 1;~^count(a);~^sql;~^or~^collect~^create~^from
null ^a~null^, a~commit ^to a;~commit ^work;~rollback ^a;~rollback to ^;~rollback to ^1;~rollback to a^.b;~savepoint ^;~savepoint ^'a';~savepoint a^.b;~savepoint ^to a
a ^b;~a ^1;~a^, b;~a ^= b;~a.^1;~a.b.c^.d;~a.b.c^.d := 1;~a^:new.b~a := ^;~a := b ^c;~a := b^:= c;~a := b^, c;~a(^;~a(b^;~a(b, ^);~a(b) ^c;~a(b, c) ^:= d;~a() ^:= b;~a(b)^(c);~a(b)^.c := d;
:^a := 1;~:^old.a := 1;~:new ^a := 1;~:new.^1 := 1;~:new.a^;~:new.a^.b := 1;~:new.a^(1) := b;~:new.a ^= 1;~: new . a := ^;
exit ^a;~exit when ^;~exit when a ^b;~exit ^if a;~return a ^b;~return ^when a;~return a^, b;~return ^select~raise ^1;~raise a^.b;~raise ^null;~raise a ^b;~raise a^(b)
if ^then~if a ^b;~if a then b; end ^;~if a then b; end if ^a;~if a then b; end ^loop;~if a then elsif ^then~if a then elsif b ^c;~if a then else ^elsif~if a then else b; ^else~if a then b; else c ^end if;~if a then b; else if c then d; end if; end^;~if^;~if a then ^; end if;
loop ^; end loop;~loop a; end ^;~loop a; end ^if;~loop a; end loop ^a;~loop a; ^exception~loop ^when a~while ^loop~while a ^;~while a loop b; end ^while;~while a ^then~while a loop b; end loop^, c
for ^in~for ^1~for a ^1~for a^.b~for a in ^loop~for a in 1 ^loop~for a in 1^, 2~for a in 1 .. ^loop~for a in 1..b ^end loop;~for a in 1 .. ^reverse 2~for a in reverse ^loop~for a in reverse a ^loop~for a in a.b ^loop~for a in a ^;~for a in ^not b .. c loop~for a in b ^= c .. d loop~for a in b..c ^= d loop~for a in b..c ^or d loop~for a in b ^c
for a in (select b from c) ^.. 5 loop~for a in (select b from c) ^+ 1 .. 5 loop~for a in (select b from c ^; end loop;~for a in (select b from c for ^loop~for a in (^insert into t values (1)) loop~for a in ((select b from c)) ^loop~for a in (b^, c) .. d loop~for a in ^select b from c loop~for a in (select b from c)^, d loop~for a in reverse (select b from c) ^loop
select ^* into a from t;~select distinct ^* into a from t;~select a ^from t;~select a bulk ^from t;~select a into ^from t;~select a into b ^c from t;~select a into b^;~select a into b, ^from t;~select a into ^1~select a into b.c.d^.e from t;~select a into b, c.d.e^.f(1) from t;~fetch a into b.c.d^.e;~select a into b(c^, d) from t;~select a into b(^) from t;~select a into ^select~select a into :^old.b from t;~select a into b from t ^into c;~select a bulk ^into b from t;~select a bulk collect ^from t;~select a into b from t for ^;~select a into b from t ^limit 5;~select a^;~select a, ^into b from t;~select a as b^.c into d from t
open ^;~open ^1;~open a^.b;~open a^(b);~open a ^for b;~close ^;~close a^.b;~close a^, b;~fetch ^into a;~fetch a ^b;~fetch a ^;~fetch a^.b into c;~fetch a into ^;~fetch a into b ^limit 5;~fetch a bulk ^into b;~fetch a bulk collect ^b;~fetch a bulk collect into b limit ^;~fetch a bulk collect into b limit c^, d;~fetch a ^limit 5;~fetch a into b ^c
forall ^in 1 .. 2 delete from t;~forall a ^1 .. 2 delete from t;~forall a in ^reverse 1 .. 2 delete from t;~forall a in 1 ^delete from t;~forall a in 1 .. ^delete from t;~forall a in 1 .. 2 ^;~forall a in 1 .. 2 ^loop delete from t;~forall a in 1 .. 2 ^select~forall a in 1 .. 2 ^a := 1;~forall a in 1 .. 2 delete from t ^end loop;~forall a in (select b from c)^; delete from t;~forall a in 1 ^= b .. 2
insert ^t values (1);~insert into t ^;~insert into t values (1)^, (2);~insert into t values (1) ^a;~update t set a = 1 ^for update;~update t ^a = 1;~delete ^t;~delete from t ^a;~insert into t select a from t ^for update;~insert into t select a ^into b from t;~delete from t where a ^into b
begin a; end ^a;~begin a; end ^if;~declare a^;~declare a int; ^end;~begin exception ^a;~begin a; exception when ^then~begin a; exception when b ^c;~begin a; exception when b then c; ^exception~begin exception when a ^and b then~begin exception when a or ^then~begin exception when a^, b then~begin exception when a^.b then`

// P5.1: the first token that cannot stand where it does, wherever the statement stands.
func TestSyntaxFaults(t *testing.T) {
	for _, frame := range []string{"begin #", "declare a int; begin b; #", "begin begin #", "begin if a then #", "begin exception when a then #"} {
		expectSyntaxFaults(t, blocks(), frame, stmtFaults)
	}
}

const blockFaults = `^null;~^end;~^exception~^a int;~^create table t (a int);~^select a from t;~^;~begin end ^if;~begin end; ^begin~begin end; ^;~begin end^, a~begin exception when a then null; ^exception
declare ^null;~declare ^end~declare ^procedure p is begin end;~declare ^1~declare ^private~declare a^;~declare a ^b;~declare a int ^b;~declare a int^, b int;~declare a int ^= 1;~declare a int := ^;~declare a int := b^, c;~declare a^, b int;~declare a^.b int;~declare a int ^not null;~declare a int ^default 1;~declare a ^count;~declare ^int int;
declare a array ^int;~declare a array of ^a;~declare a array of ^array of int;~declare a array of int ^:= 1;~declare a array of int^(5);~declare a ^cursor;~declare ^exception;~declare a exception ^:= 1;~declare a exception^, b exception;~declare a ^is
declare cursor ^is select a from t;~declare cursor a ^select b from t;~declare cursor a is ^insert into t values (1);~declare cursor a is ^(select b from t);~declare cursor a is select b from t ^begin~declare cursor a is select b ^into c from t;~declare cursor a is select b from t for update ^of b;~declare cursor a^.b is select c from t;~declare cursor a^(b int) is`

// P5.1: declarations, and what stands around the parts of a block.
func TestSyntaxFaultsOfBlocks(t *testing.T) {
	for _, frame := range []string{"#", "\t#"} {
		expectSyntaxFaults(t, blocks(), frame, blockFaults)
	}
}

const defFaults = `^table t (a int);~^select a from t;~^begin end;~^declare~^insert into t values (1);~^;~^1~^update~create ^t (a int);~create ^;~create ^unique index i on t (a);~create ^int~create ^begin~create ^drop~create ^constraint~create ^private procedure p is
create or ^view v as select a from t;~create or replace ^table t (a int);~create or replace ^index i on t (a);~create or replace ^sequence s start 1 by 1 cache 1;~create or replace ^user a;~create or replace ^;~create ^replace view v as select a from t;~create or replace ^or~create invoker ^view v as select a from t;~create invoker ^trigger g after insert on t begin end;~create invoker ^table t (a int);~create invoker ^user a;~create invoker ^invoker procedure p is~create invoker ^or replace procedure p is
create table ^(a int);~create table t ^a int;~create table u.t^.v (a int);~create table t (^);~create table t (a^);~create table t (a int^;~create table t (a int,^);~create table t (a int) ^a;~create table t (a^, b int);~create table t (a ^b);~create table t (a ^array of int);~create table t (^1);~create table t (^int int);~create table t (a^.b int);
create table t (a int default ^);~create table t (a int default b ^= c);~create table t (a int default ^not b);~create table t (a int default b ^default c);~create table t (a int not ^b);~create table t (a int not null ^default b);~create table t (a int not null ^not null);~create table t (a int ^null);~create table t (a int ^:= 1);~create table t (a int default b ^or c);~create table t (a int ^unique);~create table t (a int ^primary key);~create table t (a int default (b) ^c);
create table t (constraint ^unique (a));~create table t (constraint a ^b);~create table t (constraint a unique ^b);~create table t (constraint a unique (^));~create table t (constraint a unique (b,^));~create table t (constraint a unique (b ^c));~create table t (constraint a unique (^1));~create table t (constraint a ^key (b));~create table t (constraint a primary ^(b));~create table t (constraint a primary key ^b);~create table t (constraint a foreign ^(b) references t);~create table t (constraint a foreign key (b) ^t);~create table t (constraint a foreign key (b) references ^(c));~create table t (constraint a foreign key (b) references u.t^.v);~create table t (constraint a foreign key (b) references t ^(c));
create table t (constraint a check ^b);~create table t (constraint a check (^));~create table t (constraint a check (b^, c));~create table t (constraint a check (^select b from t));~create table t (constraint a check (b) deferred ^deferred);~create table t (constraint a check (b) ^not null);~create table t (constraint a^.b check (c));~create table t (constraint a ^deferred);~create table t (a int ^constraint b unique (a));
create index ^on t (a);~create index i ^t (a);~create index i on ^(a);~create index i on t ^a;~create index i on t (^);~create index i on t (a ^b);~create index i on t (a) ^b;~create index i on t (a ^desc);~create index i on u.t^.v (a);~create index u.i^.j on t (a);~create index i on t (a^.b);
create sequence ^start 1;~create sequence s ^by 1;~create sequence s start ^by 1;~create sequence s start ^a by 1;~create sequence s start 1 ^cache 1;~create sequence s start 1 by ^cache 1;~create sequence s start 1 by 1 ^;~create sequence s start 1 by 1 cache ^;~create sequence s start 1 by 1 cache ^- 1;~create sequence s start 1 by 1 cache 1 ^1;~create sequence s start - ^- 1 by 1 cache 1;~create sequence s start ^+ 1 by 1 cache 1;~create sequence s start 1 ^+ 1 by 1 cache 1;~create sequence s start ^'1' by 1 cache 1;~create sequence s start ^(1) by 1 cache 1;~create sequence u.s^.t start 1 by 1 cache 1;
create view ^as select a from t;~create view v ^select a from t;~create view v as ^insert into t values (1);~create view v as ^(select a from t);~create view v as select a from t a ^b;~create view v ^(a) as select b from t;~create view v as select a ^into b from t;~create view u.v^.w as select a from t;~create view v as select a from t ^for;~create view v as select a from t ^for update;~create or replace view u.v as select * from t where b ^for update;~create view v as select a from t u order by b desc ^for loop
create procedure ^is~create procedure p ^begin~create procedure p ^return int is begin end;~create procedure u.p^.q is~create procedure p (^) is~create procedure p (a^) is~create procedure p (a ^b) is~create procedure p (^in int) is~create procedure p (a in ^in int) is~create procedure p (a out ^in int) is~create procedure p (a in out ^out int) is~create procedure p (a array ^int) is~create procedure p (a array of ^array of int) is~create procedure p (a int,^) is~create procedure p (a int ^:= 1) is~create procedure p (a int, ^in b int) is
create procedure p ^declare a int;~create procedure p autonomous ^begin~create procedure p autonomous ^autonomous is~create procedure p is ^declare a int;~create procedure p is ^end;~create procedure p is begin end ^p;~create procedure p is begin end; ^;~create procedure p is begin null ^end;~create procedure p is ^procedure q is~create procedure p ^as~create procedure p (a int) ^(b int) is~create procedure p ^invoker is
create function f ^is~create function f (a int) ^is~create function f return ^is~create function f return ^a~create function f return ^array of int is~create function f return int ^return int is~create function f ^autonomous return int is~create function f return int is begin return ^end;
create package ^is end;~create package p ^begin end;~create package p ^end;~create package p is end ^p;~create package p is ^begin end;~create package p is ^null;~create package p is private ^a int;~create package p is private ^private procedure q is~create package p is ^invoker procedure q is~create package p is procedure ^is~create package p is procedure a^.q is begin end;~create package p is private ^end;~create package p is procedure q is begin end; ^begin~create package u.p^.q is end;~create package p is a int; procedure q^; end;~create package p is ^create procedure q is~create package p is private ^cursor a is select b from t;
create trigger ^before insert on t begin end;~create trigger g ^insert on t begin end;~create trigger g before ^on t begin end;~create trigger g before insert ^t begin end;~create trigger g before insert^, update on t begin end;~create trigger g before insert or ^on t begin end;~create trigger g before insert ^of a on t begin end;~create trigger g before delete ^of a on t begin end;~create trigger g before update of ^on t begin end;~create trigger g before update of a, ^on t begin end;~create trigger g before update of ^(a) on t begin end;~create trigger g before ^or insert on t begin end;~create trigger g ^is begin end;~create trigger g before ^select on t begin end;
create trigger g after insert on u.t^.v begin end;~create trigger g after insert on t ^null;~create trigger g after insert on t ^each row begin end;~create trigger g after insert on t for ^row begin end;~create trigger g after insert on t for each ^begin end;~create trigger g after insert on t ^when (a) begin end;~create trigger g after insert on t for each row when ^a begin end;~create trigger g after insert on t for each row when (^) begin end;~create trigger g after insert on t for each row when (a^, b) begin end;~create trigger g after insert on t for each row when (a) ^when (b) begin end;~create trigger g after insert on t for each row ^is begin end;~create trigger g after insert on t begin end; ^;~create trigger g after ^after insert on t begin end;~create trigger u.g^.h after insert on t begin end;
create user ^;~create user a^.b;~create user a ^b;~create user ^all;~create user ^1;~create user a^, b;~create user ^'a';
drop ^t;~drop ^user a;~drop table ^;~drop table t ^u;~drop table t^, u;~drop table u.t^.v;~drop ^invoker procedure p;~drop ^or~drop ^constraint a;~drop table ^'t';~drop ^int;~drop ^replace view v;~drop procedure p^(a int);
alter ^t add a int;~alter ^view v add a int;~alter table ^add a int;~alter table t ^a int;~alter table t add ^int;~alter table t add a ^;~alter table t add a int ^not null;~alter table t add a int ^default 1;~alter table t add a int^, b int;~alter table u.t^.v add a int;~alter table t ^drop a;~alter table t add ^(a int);~alter table t add ^constraint b unique (a);~alter table t add a ^array of int;
grant ^on t to a;~grant select ^t to a;~grant select^, insert on t to a;~grant ^all on t to a;~grant select on ^to a;~grant select on t ^a;~grant select on t ^from a;~grant select on t to ^;~grant select on t to a^, b;~grant select on t to a^.b;~grant select on u.t^.v to a;~grant ^a on t to b;~grant ^'select' on t to b;~grant ^drop on t to a;~grant select on t to all ^a;
revoke ^on t from a;~revoke select on t ^to a;~revoke select on t from ^;~revoke execute on t from a ^b;~revoke ^all on t from a;~revoke select ^from a;~revoke select on t from ^to`

// P5.2
func TestSyntaxFaultsOfDefs(t *testing.T) { expectSyntaxFaults(t, defs(), "#", defFaults) }

// P5.3: the same faults behind other items, and what begins no item.
func TestSyntaxFaultsOfScripts(t *testing.T) {
	for _, frame := range []string{"#", "begin end; #", "drop table t; select a from t; #"} {
		for _, s := range strings.Split("^null;~^(select a from t);~^end;~^table~^;~^a;~^1;~^'a';~^procedure p is~^exception~^for update;~^with~select a from t ^begin end;~select a from t for update ^, u;~select ^;~select a ^into b from t;~insert into t values (1) ^select~delete from t ^begin~update t ^;", "~") {
			expectSyntaxFaults(t, scripts(), frame, s)
		}
	}
}

// expectLexFaults expects faults of layer 2, whatever stands ahead of them.
func expectLexFaults[T any](t *testing.T, k kind[T], begin string) {
	t.Helper()
	n := len(begin)
	long := strings.Repeat("m", api.MaxName+1)
	k.expectFault(t, begin+" ? b", api.ErrLex, "?", 1, n+2)
	k.expectFault(t, begin+" 'b", api.ErrLex, "'", 1, n+2)
	k.expectFault(t, begin+"\n\n 'b\n'", api.ErrLex, "'", 3, 2)
	k.expectFault(t, begin+"\xe5", api.ErrLex, "\xe5", 1, n+1)
	k.expectFault(t, begin+" 1099511627777 ?", api.ErrRange, "1099511627777", 1, n+2)
	k.expectFault(t, begin+" "+long+" )", api.ErrRange, long[:api.MaxName], 1, n+2)
	k.expectFault(t, begin+" '"+strings.Repeat("b", api.MaxText+1)+"'", api.ErrRange, "'", 1, n+2)
	k.expectFault(t, begin+strings.Repeat(" ", api.MaxSource+1), api.ErrLimit, "", 0, 0)
	k.expectFault(t, begin+strings.Repeat("\n", api.MaxSource)+"?", api.ErrLimit, "", 0, 0)
	l, _ := lex.Lex(begin)
	k.expectFault(t, begin+strings.Repeat(" a", api.MaxTokens+1), api.ErrLimit, "a", 1, n+2*(api.MaxTokens+1-len(l)))
}

// P5.1 to P5.3: the fault of layer 2 is found first, behind what may go on with a name, what cannot stand there, what is not valid, and what is whole.
func TestFaultsOfLex(t *testing.T) {
	all := []string{"", "begin a :=", "declare", "begin if a then b; elsif", "begin for a in", "begin exception when b or", "create table", "create table t (a int, constraint", "create view v as select a from", "create package k is a int := 1; procedure", "grant select on", "drop view u ."}
	all = append(all, "c", ")", "begin x = 1 ; end;", "null;", "create table t (a int a);", "select a from t for;", "drop table t u", "delete t;")
	all = append(all, "create table t (a int, a int);", "begin "+strings.Repeat("null;", 51)+" end;", "begin a := "+deep(41)+"; end;", strings.Repeat("drop table t; ", 101))
	all = append(all, "begin end;", "drop table t;", "select a from t;", "insert into t values (1); begin null; end;")
	for _, begin := range all {
		expectLexFaults(t, blocks(), begin)
		expectLexFaults(t, defs(), begin)
		expectLexFaults(t, scripts(), begin)
		expectLexFaults(t, scripts(), "select a from t; "+begin)
	}
}

// P5.1 to P5.3: a string that is too long, or has too many tokens, and the longest ones.
func TestLongSources(t *testing.T) {
	s := "begin a(" + times(1998, "1", ",") + "); end;"
	blocks().expectFault(t, s, api.ErrLimit, "end", 1, len(s)-3)
	blocks().expectFault(t, strings.Replace(s, "begin a", "begin ; a", 1), api.ErrLimit, ";", 1, len(s)-3)
	fits := "begin a(" + times(1997, "1", ",") + "); end" // 3999 tokens
	blocks().expectFault(t, fits, api.ErrEnd, "", 1, len(fits)+1)
	blocks().tree(t, fits+";")
	blocks().tree(t, fits+";"+strings.Repeat(" ", api.MaxSource-len(fits)-1))
	blocks().expectFault(t, fits+";"+strings.Repeat(" ", api.MaxSource-len(fits)), api.ErrLimit, "", 0, 0)
	blocks().expectFault(t, fits+";;", api.ErrLimit, ";", 1, len(fits)+2)
	scripts().tree(t, fits+";")
	scripts().expectFault(t, fits+"; begin end;", api.ErrLimit, "begin", 1, len(fits)+3)
	scripts().expectFault(t, "drop table t;"+strings.Repeat(" ", api.MaxSource), api.ErrLimit, "", 0, 0)
}
