package catalog_test

import (
	"math/rand/v2"
	"slices"
	"strings"
	"testing"

	"justiciar/api"
	"justiciar/catalog"
)

// maker makes definitions by chance, the same ones in each run. Few names are used, so that most paths mean something.
type maker struct{ *rand.Rand }

func (m maker) pick(l ...string) string { return l[m.IntN(len(l))] }

func (m maker) user() string { return m.pick("a", "b", "c") }

func (m maker) name() string { return m.pick("a", "b", "t", "u", "v", "p", "q", "s") }

// path returns a path of one or two names.
func (m maker) path() string {
	if m.IntN(3) == 0 {
		return m.user() + "." + m.name()
	}
	return m.name()
}

// long returns a path of up to three names.
func (m maker) long() string {
	if m.IntN(4) == 0 {
		return m.path() + "." + m.name()
	}
	return m.path()
}

// definition returns what replaces each capital letter of a pattern: a P by a path, an L by one of up to three names, an N by a name, a U by a user.
func (m maker) definition(pattern string) string {
	var s strings.Builder
	for _, r := range pattern {
		switch r {
		case 'P':
			s.WriteString(m.path())
		case 'L':
			s.WriteString(m.long())
		case 'N':
			s.WriteString(m.name())
		case 'U':
			s.WriteString(m.user())
		default:
			s.WriteRune(r)
		}
	}
	return s.String()
}

func (m maker) creation() string {
	return m.definition(m.pick(
		"create table P (k int, m int, constraint x primary key (k));",
		"create table P (k int, m int default L, constraint x primary key (k), constraint y foreign key (m) references P);",
		"create table P (k int, constraint x primary key (k), constraint z check (k > L or L(L) = 1));",
		"create index P on P (k);",
		"create sequence P start 1 by 1 cache 1;",
		"create view P as select k from P;",
		"create or replace view P as select L from P, P where L(1) = (select k from P);",
		"create procedure P is begin L; L(L); end;",
		"create or replace procedure P is begin insert into P values (1); for r in (select k from P) loop L; end loop; end;",
		"create or replace function P return int is begin return L(1) + L; end;",
		"create package P is n int := L; procedure q is begin update P set k = 1 where L; end; end;",
		"create or replace package P is procedure q is begin P.q; end; end;",
		"create trigger P before insert on P begin L; end;",
		"create or replace trigger P after delete on P for each row when (:old.k = L) begin delete from P; end;",
	))
}

func (m maker) any() string {
	if m.IntN(2) == 0 {
		return m.creation()
	}
	return m.definition(m.pick(
		"drop table P;", "drop index P;", "drop sequence P;", "drop view P;", "drop procedure P;", "drop function P;", "drop package P;", "drop trigger P;",
		"alter table P add N int;", "alter table P add N text;",
		"grant select on P to U;", "grant execute on P to U;", "grant delete on P to all;",
		"revoke select on P from U;", "revoke execute on P from U;", "revoke delete on P from all;",
		"create user N;",
	))
}

// walk makes definitions by chance, one after the other, and shows a closure each catalog, a definition of a user, and what comes of it.
func walk(t *testing.T, seed uint64, steps int, look func(m maker, c api.Catalog, user string, d api.Def, n api.Catalog, code api.Errno)) {
	t.Helper()
	m := maker{rand.New(rand.NewPCG(6, seed))}
	c := users(t, "a", "b", "c")
	for range steps {
		user, d := m.user(), def(t, m.any())
		n, code := catalog.Do(c, user, d)
		look(m, c, user, d, n, code)
		if code == api.OK {
			c = n
		}
		if o := slices.Collect(slices.Values(c.Objects)); len(o) > 0 && m.IntN(3) == 0 {
			one := o[m.IntN(len(o))]
			if marked, code := catalog.Mark(c, one.Owner, one.Name, m.IntN(4) > 0); code == api.OK {
				c = marked
			}
		}
	}
}

// TestLawValid: P6.7 and P6.8.
func TestLawValid(t *testing.T) {
	made := 0
	for seed := range uint64(12) {
		walk(t, seed, 300, func(m maker, c api.Catalog, user string, d api.Def, n api.Catalog, code api.Errno) {
			old, oldDef := copied(c), copied(d)
			if _, again := catalog.Do(c, user, d); again != code || !equal(c, old) || !equal(d, oldDef) {
				t.Fatalf("error %d, and then %d; an argument has changed: %v", code, again, d)
			}
			if code != api.OK {
				if !equal(n, api.Catalog{}) {
					t.Fatalf("error %d with %v", code, n)
				}
				return
			}
			made++
			if !catalog.Valid(n) || n.Stamp != c.Stamp+1 {
				t.Fatalf("not valid after %v: %s", d, encoded(n))
			}
		})
	}
	if made < 700 {
		t.Errorf("only %d definitions were made", made)
	}
}

// TestLawHangs: P6.9, with P6.3 and P6.6.
func TestLawHangs(t *testing.T) {
	links := 0
	for seed := range uint64(6) {
		walk(t, 100+seed, 250, func(m maker, c api.Catalog, user string, d api.Def, n api.Catalog, code api.Errno) {
			if code != api.OK || m.IntN(3) > 0 {
				return
			}
			expectNamed(t, n)
			expectSorted(t, n, written(sortedBy(n)))
			links += len(n.Objects)
		})
	}
	if links < 1000 {
		t.Errorf("only %d objects", links)
	}
}

// changedBy returns the key of the object that a definition of a user makes, changes or drops.
func changedBy(user string, d api.Def) [2]string {
	switch {
	case d.Op == api.FCreate && d.Object.Owner != "":
		return [2]string{d.Object.Owner, d.Object.Name}
	case d.Op == api.FCreate:
		return [2]string{user, d.Object.Name}
	case len(d.Path) == 2:
		return [2]string{d.Path[0], d.Path[1]}
	case len(d.Path) == 1:
		return [2]string{user, d.Path[0]}
	}
	return [2]string{}
}

// TestLawInvalid: P6.10, with what P6.4 says of Valid and Stamp.
func TestLawInvalid(t *testing.T) {
	stale := 0
	for seed := range uint64(12) {
		walk(t, 200+seed, 250, func(m maker, c api.Catalog, user string, d api.Def, n api.Catalog, code api.Errno) {
			if code != api.OK {
				return
			}
			key, before, then := changedBy(user, d), hanging(c), hanging(n)
			gone := map[[2]string]bool{key: true}
			for _, o := range c.Objects {
				gone[[2]string{o.Owner, o.Name}] = !slices.ContainsFunc(n.Objects, func(x api.Object) bool { return x.Owner == o.Owner && x.Name == o.Name })
			}
			gone[key] = d.Op <= api.FAdd
			hung := func(one [2]string) bool {
				for other, is := range gone {
					if is && (before[one][other] || d.Op == api.FCreate && then[one][other]) {
						return true
					}
				}
				return false
			}
			for _, o := range n.Objects {
				one := [2]string{o.Owner, o.Name}
				if one == key && d.Op <= api.FAdd {
					if !o.Valid || o.Stamp != n.Stamp {
						t.Fatalf("%v is not Valid, or has another Stamp: %v", one, d)
					}
					continue
				}
				was := c.Objects[slices.IndexFunc(c.Objects, func(x api.Object) bool { return x.Owner == o.Owner && x.Name == o.Name })]
				renewed := o.Kind == api.OView || len(o.Unit) > 0
				if o.Valid != (was.Valid && !(renewed && hung(one))) || o.Stamp != was.Stamp {
					t.Fatalf("%v: Valid %v, before %v, after %v: %s", one, o.Valid, was.Valid, d, encoded(n))
				}
				if o.Valid != was.Valid {
					stale++
				}
			}
		})
	}
	if stale < 100 {
		t.Errorf("only %d objects were not Valid any more", stale)
	}
}

// TestLawApart: P6.11.
func TestLawApart(t *testing.T) {
	pairs := 0
	for seed := range uint64(40) {
		walk(t, 300+seed, 250, func(m maker, c api.Catalog, user string, d api.Def, n api.Catalog, code api.Errno) {
			other, e := m.user(), def(t, m.creation())
			if m.IntN(3) == 0 {
				e = def(t, m.any())
			}
			one, two := changedBy(user, d), changedBy(other, e)
			if code != api.OK || one == two || d.Op == api.FUser || e.Op == api.FUser {
				return
			}
			both, code := catalog.Do(n, other, e)
			if code != api.OK {
				return
			}
			first, code := catalog.Do(c, other, e)
			if code == api.OK && (hangsEither(one, two, c, n, both, first)) || code != api.OK && hangsEither(one, two, c, n, both) {
				return
			}
			turned, late := catalog.Do(first, user, d)
			if code != api.OK || late != api.OK || !catalog.Same(withStamp(turned), withStamp(both)) {
				t.Fatalf("errors %d and %d: %v and %v:\n%s\n%s", code, late, d, e, encoded(turned), encoded(both))
			}
			pairs++
		})
	}
	if pairs < 200 {
		t.Errorf("only %d pairs", pairs)
	}
}

// hangsEither reports whether one of two objects hangs on the other one in some catalog.
func hangsEither(one, two [2]string, l ...api.Catalog) bool {
	return slices.ContainsFunc(l, func(c api.Catalog) bool {
		h := hanging(c)
		return h[one][two] || h[two][one]
	})
}

// withStamp returns a catalog with a Stamp of 1 everywhere.
func withStamp(c api.Catalog) api.Catalog {
	return with(c, func(c *api.Catalog) {
		c.Stamp = 1
		for i := range c.Objects {
			c.Objects[i].Stamp = 1
		}
	})
}

// TestLawBack: P6.12.
func TestLawBack(t *testing.T) {
	backs := 0
	for seed := range uint64(12) {
		walk(t, 400+seed, 200, func(m maker, c api.Catalog, user string, d api.Def, n api.Catalog, code api.Errno) {
			if code != api.OK || d.Op != api.FCreate || len(n.Objects) == len(c.Objects) {
				return
			}
			key := changedBy(user, d)
			if slices.ContainsFunc(n.Objects, func(o api.Object) bool {
				return slices.Contains(namedBy(n, o), key)
			}) {
				return
			}
			drop := api.Def{Op: api.FDrop, Path: key[:], Object: api.Object{Kind: d.Object.Kind}}
			if d.Object.Kind == api.OProc {
				drop.Object.Unit = []api.Unit{{Subs: []api.Sub{{Fun: d.Object.Unit[0].Subs[0].Fun}}}}
			}
			back, code := catalog.Do(n, m.user(), drop)
			if code != api.OK || !catalog.Same(back, with(c, func(c *api.Catalog) { c.Stamp += 2 })) {
				t.Fatalf("error %d after %v:\n%s\n%s", code, d, encoded(back), encoded(c))
			}
			backs++
		})
	}
	if backs < 100 {
		t.Errorf("only %d objects went", backs)
	}
}
