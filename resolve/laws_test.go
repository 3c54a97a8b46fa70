package resolve_test

import (
	"cmp"
	"fmt"
	"math/rand/v2"
	"regexp"
	"slices"
	"strings"
	"testing"

	"justiciar/api"
	"justiciar/catalog"
	"justiciar/grammar"
	"justiciar/resolve"
)

// maker makes queries by chance, the same ones in each run.
type maker struct {
	*rand.Rand
	c       api.Catalog
	user    string
	binds   []api.Bind
	sources int         // how many it has made: each has another name
	scopes  [][]written // the sources of the queries around what is made, the innermost ones last
	known   map[string][]api.Named
}

// written is a source, as it is written.
type written struct {
	name string
	cols []api.Named
}

func (m *maker) pick(l ...string) string { return l[m.IntN(len(l))] }

func (m *maker) chance(in int) bool { return m.IntN(in) == 0 }

func (m *maker) kind() api.Kind { return api.Kind(1 + m.IntN(3)) }

// source returns a source, and puts it into the innermost scope.
func (m *maker) source() string {
	path := m.pick("t", "s", "one", "v", "two", "nix", "w.t", "w.v", "w.far", "u.t", "u.s")
	m.sources++
	name := fmt.Sprintf("z%d", m.sources)
	inner := len(m.scopes) - 1
	m.scopes[inner] = append(m.scopes[inner], written{name, m.columns(path)})
	if m.chance(5) {
		path += " as of " + m.pick("1", "v", "3 + v", "null")
	}
	return path + " " + name
}

// columns returns the columns that a path means for the user; none, if it means nothing, so that the query has a fault.
func (m *maker) columns(path string) []api.Named {
	key := m.user + " " + path
	l, ok := m.known[key]
	if !ok {
		l, _ = resolve.Columns(m.c, m.user, strings.Split(path, "."))
		m.known[key] = l
	}
	return l
}

// column returns the name of a column of a kind in one of the scopes; a constant, if there is none.
func (m *maker) column(k api.Kind, scopes [][]written) string {
	var all []string
	for _, scope := range scopes {
		for _, x := range scope {
			for _, col := range x.cols {
				if col.Type == k || col.Type == api.VNull {
					all = append(all, col.Name, col.Name, x.name+"."+col.Name)
				}
			}
		}
	}
	if len(all) == 0 {
		return m.constant(k)
	}
	return m.pick(all...)
}

func (m *maker) constant(k api.Kind) string {
	switch k {
	case api.VInt:
		return m.pick("1", "2", "null")
	case api.VText:
		return m.pick("'x'", "''", "null")
	}
	return m.pick("true", "false", "null")
}

// leaf returns what has nothing within it.
func (m *maker) leaf(k api.Kind) string {
	switch m.IntN(6) {
	case 0:
		return m.constant(k)
	case 1:
		return map[api.Kind]string{api.VInt: m.pick("v", ":new.a", "pack.n"), api.VText: m.pick("str", ":old.a"), api.VBool: "true"}[k]
	case 2:
		if m.chance(12) {
			return m.pick("zzz", "z1.zzz", ":new.zzz")
		}
	}
	return m.column(k, m.scopes)
}

// expr returns an expression of a kind, down to a depth; simple, if there is no query in it.
func (m *maker) expr(k api.Kind, deep int, simple bool) string {
	if deep == 0 {
		return m.leaf(k)
	}
	sub := func(k api.Kind) string { return m.expr(k, deep-1, simple) }
	other := m.kind()
	if !simple && m.chance(4) {
		return m.inner(k)
	}
	if m.chance(4) {
		return "case when " + sub(api.VBool) + " then " + sub(k) + " else " + sub(k) + " end"
	}
	switch k {
	case api.VInt:
		return m.pick("("+sub(k)+m.pick(" + ", " - ", " * ", " / ", " mod ")+sub(k)+")", "(- "+sub(k)+")", "abs("+sub(k)+")", "length("+sub(api.VText)+")", "nvl("+sub(k)+", "+sub(k)+")", sub(k))
	case api.VText:
		return m.pick("("+sub(k)+" || "+sub(k)+")", "upper("+sub(k)+")", "substr("+sub(k)+", 1, "+sub(api.VInt)+")", "to_text("+sub(api.VInt)+")", sub(k))
	}
	return m.pick("("+sub(other)+m.pick(" = ", " <> ", " < ", " >= ")+sub(other)+")", "("+sub(k)+m.pick(" and ", " or ")+sub(k)+")", "(not "+sub(k)+")", "("+sub(other)+" is null)",
		"("+sub(other)+" in ("+sub(other)+", "+sub(other)+"))", "("+sub(other)+" not between "+sub(other)+" and "+sub(other)+")", "("+sub(api.VText)+" like "+sub(api.VText)+")")
}

// inner returns an expression that has a query.
func (m *maker) inner(k api.Kind) string {
	if len(m.scopes) > 3 {
		return m.leaf(k)
	}
	if k == api.VBool && m.chance(2) {
		return "exists (" + m.query(0) + ")"
	}
	return "(" + m.query(k) + ")"
}

// query returns a query that selects one value of a kind, or, if that is VNull, anything.
func (m *maker) query(k api.Kind) string {
	m.scopes = append(m.scopes, nil)
	defer func() { m.scopes = m.scopes[:len(m.scopes)-1] }()
	sources := m.source()
	for m.chance(2) && len(m.scopes[len(m.scopes)-1]) < 4 {
		sources += ", " + m.source()
	}
	where := m.maybe(" where ", api.VBool)
	if k == api.VNull && m.chance(5) {
		return "select * from " + sources + where + m.maybe(" order by ", m.kind())
	}
	list := []api.Kind{k}
	if k == api.VNull {
		list = []api.Kind{m.kind(), m.kind(), m.kind()}[:1+m.IntN(3)]
	}
	if m.chance(3) {
		return m.grouped(sources+where, list)
	}
	var items []string
	for _, k := range list {
		items = append(items, m.expr(k, m.IntN(3), false))
	}
	distinct, order := "", m.maybe(" order by ", m.kind())
	if m.chance(5) {
		distinct, order = "distinct ", " order by "+m.pick(items...)
	}
	for i := range items {
		items[i] += m.pick("", "", " as n", " as a")
	}
	return "select " + distinct + strings.Join(items, ", ") + " from " + sources + where + order
}

func (m *maker) maybe(head string, k api.Kind) string {
	if m.chance(2) {
		return ""
	}
	return head + m.expr(k, m.IntN(3), false)
}

// grouped returns a query that groups what it reads.
func (m *maker) grouped(from string, list []api.Kind) string {
	keys := map[api.Kind]string{}
	var group []string
	own := m.scopes[len(m.scopes)-1:]
	for _, k := range []api.Kind{api.VInt, api.VText, api.VBool} {
		if m.chance(2) {
			keys[k] = m.column(k, own)
			group = append(group, keys[k])
		}
	}
	part := func(k api.Kind) string {
		if keys[k] != "" && m.chance(2) {
			return keys[k]
		}
		if k == api.VInt && m.chance(2) {
			return m.pick("count(*)", "sum("+m.expr(k, 1, true)+")", "count("+m.expr(m.kind(), 1, true)+")")
		}
		return m.pick("min(", "max(") + m.expr(k, 1, true) + ")"
	}
	var items []string
	for _, k := range list {
		items = append(items, part(k))
	}
	s := "select " + strings.Join(items, ", ") + " from " + from + clause(" group by ", group)
	if m.chance(3) {
		s += " having " + part(api.VInt) + " > 1"
	}
	if m.chance(3) {
		s += " order by " + part(m.kind()) + " desc"
	}
	return s
}

// walk makes queries by chance, and shows a closure each of them.
func walk(t *testing.T, seed uint64, steps int, look func(m *maker, x call, q api.Query)) {
	t.Helper()
	m := &maker{Rand: rand.New(rand.NewPCG(7, seed)), c: world(t), binds: variables(), known: map[string][]api.Named{}}
	m.binds = slices.DeleteFunc(m.binds, func(b api.Bind) bool { return len(b.Path) == 1 && b.Path[0] == "a" })
	for range steps {
		m.user, m.sources, m.scopes = m.pick("u", "u", "u", "w"), 0, nil
		look(m, call{m.c, m.user, m.binds}, queryOf(t, m.query(api.VNull)))
	}
}

// sourcesOf returns all that the sources of a resolved query have, also what has no name.
func sourcesOf(t *testing.T, c api.Catalog, q api.Query) []written {
	t.Helper()
	var l []written
	for _, x := range q.From {
		_, all, f := resolve.Query(c, x.Path[0], nil, queryOf(t, "select * from "+strings.Join(x.Path, ".")))
		if f != (api.Fault{}) {
			t.Fatal(x.Path, f)
		}
		l = append(l, written{x.As, all})
	}
	return l
}

// meaning looks at a resolved query with another reckoning of what names mean, and writes all names with their sources.
type meaning struct {
	t      *testing.T
	x      call
	scopes [][]written // the innermost one first
	full   func(old, found *api.Expr, source, column string)
}

func (m meaning) query(old, found *api.Query) {
	m.scopes = append([][]written{sourcesOf(m.t, m.x.c, *found)}, m.scopes...)
	outside := m
	outside.scopes = nil
	for i := range found.From {
		old.From[i].Path = slices.Clone(found.From[i].Path)
		outside.exprs(old.From[i].AsOf, found.From[i].AsOf)
	}
	for i := range old.List {
		m.expr(&old.List[i].Expr, &found.List[i].Expr)
	}
	m.exprs(old.Where, found.Where)
	m.exprs(old.Group, found.Group)
	m.exprs(old.Having, found.Having)
	for i := range found.Order {
		m.expr(&old.Order[i].Expr, &found.Order[i].Expr)
	}
}

func (m meaning) exprs(old, found []api.Expr) {
	for i := range found {
		m.expr(&old[i], &found[i])
	}
}

func (m meaning) expr(old, found *api.Expr) {
	m.exprs(old.Kids, found.Kids)
	for i := range found.Query {
		m.query(&old.Query[i], &found.Query[i])
	}
	if old.Op != api.EName {
		if found.Op != old.Op {
			m.t.Errorf("%s became %s", shownExpr(*old), shownExpr(*found))
		}
		return
	}
	m.name(old, found)
}

// name looks for all columns that a name may mean, scope by scope, and for the bind.
func (m meaning) name(old, found *api.Expr) {
	path := old.Path
	for up, scope := range m.scopes {
		for b, x := range scope {
			for c, col := range x.cols {
				if old.Text != "" || col.Name != path[len(path)-1] || len(path) > 2 || len(path) == 2 && x.name != path[0] {
					continue
				}
				if found.Op != api.ECol || found.A != up || found.B != b || found.C != c {
					m.t.Errorf("%s became %s, not column %d of source %d, %d up", shownExpr(*old), shownExpr(*found), c, b, up)
				}
				old.Path = []string{x.name, col.Name}
				return
			}
		}
	}
	path = slices.Clone(path)
	if old.Text != "" {
		path[0] = ":" + path[0]
	}
	if found.Op != api.EBind || !slices.Equal(m.x.binds[found.A].Path, path) {
		m.t.Errorf("%s became %s", shownExpr(*old), shownExpr(*found))
	}
}

// pathless returns a resolved query without the paths of columns.
func pathless(q api.Query) string {
	return regexp.MustCompile(`[a-z0-9_.]+@`).ReplaceAllString(shownQuery(q), "@")
}

// numberless returns a resolved query without the numbers of binds.
func numberless(q api.Query) string {
	return regexp.MustCompile(`\$[0-9]+`).ReplaceAllString(shownQuery(q), "$$")
}

// TestLawPaths: P7.5 and P7.8, and what names mean.
func TestLawPaths(t *testing.T) {
	right := 0
	for seed := range uint64(4) {
		walk(t, seed, 700, func(m *maker, x call, q api.Query) {
			r, l, f := x.query(t, q)
			if f != (api.Fault{}) {
				if f.Code == api.ErrArg || f.Code == api.ErrLimit {
					t.Errorf("%s: %v", shownQuery(q), f)
				}
				return
			}
			right++
			full := copied(q)
			meaning{t: t, x: x}.query(&full, &r)
			for _, user := range m.c.Users {
				rFull, lFull, f := call{x.c, user, x.binds}.query(t, full)
				if f != (api.Fault{}) || pathless(rFull) != pathless(r) || !equal(l, lFull) {
					t.Errorf("%s: %v\n%s\nand with all sources for %s\n%s", shownQuery(q), f, shownQuery(r), user, shownQuery(rFull))
				}
			}
		})
	}
	if right < 1200 {
		t.Errorf("only %d queries were right", right)
	}
}

// owned writes all paths of sources with an owner.
func owned(q api.Query, owner string) api.Query {
	q = copied(q)
	for n := range grammar.Nodes(grammar.Node{Query: &q}) {
		if n.Source != nil && len(n.Source.Path) == 1 {
			n.Source.Path = []string{owner, n.Source.Path[0]}
		}
	}
	return q
}

// TestLawUsers: P7.8, of queries with faults, too.
func TestLawUsers(t *testing.T) {
	walk(t, 10, 1000, func(m *maker, x call, q api.Query) {
		q = owned(q, m.pick("u", "w"))
		r, l, f := call{x.c, "u", x.binds}.query(t, q)
		again, lAgain, fAgain := call{x.c, "w", x.binds}.query(t, q)
		if f != fAgain || !equal(r, again) || !equal(l, lAgain) {
			t.Errorf("%s: %v and %v", shownQuery(q), f, fAgain)
		}
	})
}

// TestLawBinds: P7.7.
func TestLawBinds(t *testing.T) {
	more := []api.Bind{{Path: []string{"other"}, Type: api.VInt}, {Path: []string{"z1", "other"}, Type: api.VBool}, {Path: []string{"t", "a", "b"}, Type: api.VText}}
	walk(t, 20, 1000, func(m *maker, x call, q api.Query) {
		r, l, f := x.query(t, q)
		nulls := copied(x.binds)
		for i := range nulls {
			nulls[i].Val = api.Value{}
		}
		again, lAgain, fAgain := call{x.c, x.user, append(nulls, more...)}.query(t, q)
		if f != fAgain || !equal(r, again) || !equal(l, lAgain) {
			t.Errorf("%s, with other binds behind: %v and %v", shownQuery(q), f, fAgain)
		}
		turned := append(copied(more), x.binds...)
		slices.Reverse(turned)
		again, lAgain, fAgain = call{x.c, x.user, turned}.query(t, q)
		if f != fAgain || numberless(again) != numberless(r) || !equal(l, lAgain) {
			t.Errorf("%s, with binds turned: %v and %v", shownQuery(q), f, fAgain)
		}
	})
}

// TestLawAgain: P7.6.
func TestLawAgain(t *testing.T) {
	views := 0
	walk(t, 30, 2000, func(m *maker, x call, q api.Query) {
		_, l, f := resolve.Query(x.c, x.user, nil, q)
		c, code := catalog.Do(x.c, x.user, api.Def{Op: api.FCreate, Object: api.Object{Name: "vw", Kind: api.OView, View: []api.Query{q}}})
		if code != api.OK {
			t.Fatal(shownQuery(q), code)
		}
		cols, code := resolve.Columns(c, x.user, []string{"vw"})
		if f.Code != api.OK {
			if code != api.ErrBad {
				t.Errorf("%s: %v, as a view error %d", shownQuery(q), f, code)
			}
			return
		}
		views++
		_, all, f := resolve.Query(c, x.user, nil, queryOf(t, "select * from vw"))
		named := slices.DeleteFunc(slices.Clone(l), func(n api.Named) bool { return n.Name == "" })
		if f != (api.Fault{}) || code != api.OK || !equal(all, l) || !equal(cols, named) {
			t.Errorf("%s: %v, error %d: %s, as a view %s, its columns %s", shownQuery(q), f, code, shownNames(l), shownNames(all), shownNames(cols))
		}
	})
	if views < 400 {
		t.Errorf("only %d views", views)
	}
}

// over returns a path of a table, over which expressions are made from now on, and its columns.
func (m *maker) over() (string, []api.Named) {
	path := map[string]string{"u": m.pick("t", "s", "one", "u.t", "w.t"), "w": m.pick("t", "w.t", "u.t", "u.s", "u.one")}[m.user]
	cols := m.columns(path)
	m.sources, m.scopes = 0, [][]written{{{path[strings.Index(path, ".")+1:], cols}}}
	return path, cols
}

// TestLawParts: what a change, or an expression over a table, has in it means what it means in a query of the table.
func TestLawParts(t *testing.T) {
	right := map[string]int{}
	compare := func(what string, q api.Query, f, fQuery api.Fault, found, inQuery any) {
		t.Helper()
		if f != fQuery || f == (api.Fault{}) && !equal(found, inQuery) {
			t.Errorf("%s, as in %s: %v and %v: %s and %s", what, shownQuery(q), f, fQuery, encoded(found), encoded(inQuery))
		}
		if f == (api.Fault{}) {
			right[what]++
		}
	}
	walk(t, 40, 1000, func(m *maker, x call, _ api.Query) {
		path, cols := m.over()
		col := cols[m.IntN(len(cols))]
		q := queryOf(t, "select "+m.expr(col.Type, m.IntN(3), false)+" from "+path+" where "+m.expr(api.VBool, m.IntN(3), false))
		r, _, f := x.query(t, q)
		update := api.Change{Op: api.CUpdate, Path: q.From[0].Path, Cols: []string{col.Name}, Vals: []api.Expr{q.List[0].Expr}, Where: q.Where}
		found, fChange := x.change(t, update)
		if f == (api.Fault{}) {
			compare("update", q, fChange, f, [][]api.Expr{found.Vals, found.Where}, [][]api.Expr{{r.List[0].Expr}, r.Where})
		} else {
			compare("update", q, fChange, f, nil, nil)
		}

		q.List = []api.Item{{Expr: exprOf(t, "1")}}
		r, _, f = x.query(t, q)
		found, fChange = x.change(t, api.Change{Op: api.CDelete, Path: update.Path, Where: q.Where})
		compare("delete", q, fChange, f, found.Where, r.Where)

		m.scopes = nil
		q = queryOf(t, m.query(col.Type))
		r, _, f = x.query(t, q)
		found, fChange = x.change(t, api.Change{Op: api.CInsert, Path: update.Path, Cols: update.Cols, Query: []api.Query{q}})
		compare("insert", q, fChange, f, found.Query, []api.Query{r}[:len(found.Query)])
	})
	walk(t, 50, 1000, func(m *maker, x call, _ api.Query) {
		path, _ := m.over()
		q := queryOf(t, "select "+m.expr(m.kind(), m.IntN(4), true)+" as r from "+path)
		r, l, f := x.query(t, q)
		o, _ := catalog.Mean(x.c, x.user, q.From[0].Path)
		e, k, fExpr := call{x.c, o.Owner, x.binds}.expr(t, o.Name, q.List[0].Expr)
		if f == (api.Fault{}) {
			compare("expression", q, fExpr, f, []any{e, k}, []any{r.List[0].Expr, l[0].Type})
		} else {
			compare("expression", q, fExpr, f, nil, nil)
		}
	})
	for _, what := range []string{"update", "delete", "insert", "expression"} {
		if right[what] < 300 {
			t.Error(right)
		}
	}
}

// TestLawFirst: of several faults of an update (P7.2) the first one, so that it has that of the first of its parts that has one on its own.
func TestLawFirst(t *testing.T) {
	several := 0
	walk(t, 60, 1000, func(m *maker, x call, _ api.Query) {
		path, cols := m.over()
		update := api.Change{Op: api.CUpdate, Path: strings.Split(path, ".")}
		part := func(k api.Kind, col int) []api.Expr {
			if m.chance(4) {
				k = m.kind()
			}
			e := exprOf(t, m.expr(k, m.IntN(3), false))
			e.Line = col
			return []api.Expr{e}
		}
		var alone []api.Change
		for i, col := range cols {
			one := api.Change{Op: api.CUpdate, Path: update.Path, Cols: []string{col.Name}, Vals: part(col.Type, i+1)}
			update.Cols, update.Vals, alone = append(update.Cols, col.Name), append(update.Vals, one.Vals...), append(alone, one)
		}
		update.Where = part(api.VBool, len(cols)+1)
		alone = append(alone, api.Change{Op: api.CDelete, Path: update.Path, Where: update.Where})
		var first api.Fault
		faults := 0
		for _, one := range alone {
			if _, f := x.change(t, one); f != (api.Fault{}) {
				first = cmp.Or(first, f)
				faults++
			}
		}
		if _, f := x.change(t, update); f != first {
			t.Errorf("%s: %v, of its parts alone %v", shownChange(update), f, first)
		}
		if faults > 1 {
			several++
		}
	})
	if several < 100 {
		t.Errorf("only %d changes had several faults", several)
	}
}
