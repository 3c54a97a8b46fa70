package unit_test

import (
	"fmt"
	"math/rand/v2"
	"reflect"
	"slices"
	"strings"
	"testing"

	"justiciar/api"
	"justiciar/lex"
	"justiciar/unit"
)

// maker makes trees by chance, the same ones in each run.
type maker struct {
	*rand.Rand
	exprs   []api.Expr
	targets []api.Expr
	queries []api.Query // with a list of items
	changes []api.Change
}

func newMaker() maker {
	return maker{
		Rand:    rand.New(rand.NewPCG(5, 7)),
		exprs:   exs("7", "'it''s'", "null", "a", "a.b.c", ":old.a", "- a", "not a", "a + 1", "a || b * c", "a = b", "a and not b", "a is not null", "a in (1, b or c)", "a not between 1 and 2", "a not like b", "f(a, not b)", "count(*)", "sql%rowcount", "c%notfound", "case when a then b else c end", "(select a from t)", "(select a from t) + 1", "(select * from t) - (select * from u)", "exists (select * from t)"),
		targets: exs("a", "b.c", "a.b.c", ":new.a", "a(1)", "a.b(c + 1)", "a.b.c((select a from t))"),
		queries: []api.Query{qu("select a from t"), qu("select distinct a or b as c, (select d from t) from t x, u.v as of 7 - a y where a group by b having c order by d desc, e for update"), qu("select a, b from t for update")},
		changes: []api.Change{ch("insert into t values (1, not a)"), ch("insert into t (a, b) select * from u"), ch("update u.t set a = 1, b = c = d where e"), ch("delete from t"), ch("delete from t where exists (select * from u)")},
	}
}

func pick[T any](m maker, l []T) T { return copied(l[m.IntN(len(l))]) }

func (m maker) flip() bool { return m.IntN(2) == 0 }

// list returns as many elements as chance says, made by a closure.
func list[T any](m maker, least, most int, one func() T) []T {
	var l []T
	for range least + m.IntN(most-least+1) {
		l = append(l, one())
	}
	return l
}

func (m maker) expr() api.Expr { return pick(m, m.exprs) }

func (m maker) target() api.Expr { return pick(m, m.targets) }

func (m maker) name() string { return pick(m, []string{"a", "b1", "c_", "others", "put"}) }

func (m maker) names(least, most int) []string { return list(m, least, most, m.name) }

func (m maker) exprsOf(least, most int) []api.Expr { return list(m, least, most, m.expr) }

func (m maker) base() api.Kind { return pick(m, []api.Kind{api.VInt, api.VText, api.VBool}) }

func (m maker) typed() api.Type { return api.Type{Base: m.base(), Array: m.IntN(3) == 0} }

// query returns a query, perhaps with a star in place of its items.
func (m maker) query() api.Query {
	q := pick(m, m.queries)
	if m.IntN(3) == 0 {
		q.Star, q.List = true, nil
	}
	return q
}

func (m maker) row(deep int) []api.Stmt {
	return list(m, 0, 3, func() api.Stmt { return m.stmt(deep) })
}

func (m maker) block(deep int) api.Block {
	handler := func() api.Handler { return api.Handler{Names: m.names(1, 3), Body: m.row(deep - 1)} }
	return api.Block{Decls: list(m, 0, 2, m.decl), Body: m.row(deep), When: list(m, 0, 1+m.IntN(2), handler)}
}

func (m maker) decl() api.Decl {
	d := api.Decl{Op: api.DeclOp(1 + m.IntN(3)), Name: m.name()}
	switch d.Op {
	case api.DVar:
		d.Type = m.typed()
		if !d.Type.Array {
			d.Init = m.exprsOf(0, 1)
		}
	case api.DCursor:
		d.Query = []api.Query{m.query()}
	}
	return d
}

func (m maker) stmt(deep int) api.Stmt {
	if deep > 0 && m.IntN(3) == 0 {
		return m.bodied(deep - 1)
	}
	s := api.Stmt{Op: pick(m, []api.StmtOp{api.SAssign, api.SExit, api.SReturn, api.SRaise, api.SNull, api.SCall, api.SSelect, api.SChange, api.SForall, api.SOpen, api.SFetch, api.SClose, api.SCommit, api.SRollback, api.SSave})}
	switch s.Op {
	case api.SAssign:
		s.Target, s.Exprs = []api.Expr{m.target()}, m.exprsOf(1, 1)
	case api.SExit, api.SReturn:
		s.Exprs = m.exprsOf(0, 1)
	case api.SRaise:
		s.Path = m.names(0, 1)
	case api.SCall:
		s.Path, s.Exprs = m.names(1, 3), m.exprsOf(0, 3)
	case api.SSelect:
		s.Query, s.Target, s.Bulk = []api.Query{pick(m, m.queries)}, list(m, 1, 3, m.target), m.flip()
	case api.SChange:
		s.Change = []api.Change{pick(m, m.changes)}
	case api.SForall:
		s.Text, s.Exprs, s.Change = m.name(), m.exprsOf(2, 2), []api.Change{pick(m, m.changes)}
	case api.SOpen, api.SClose:
		s.Path = m.names(1, 1)
	case api.SFetch:
		s.Path, s.Target, s.Bulk = m.names(1, 1), list(m, 1, 3, m.target), m.flip()
		if s.Bulk {
			s.Exprs = m.exprsOf(0, 1)
		}
	case api.SRollback:
		s.Text = strings.Join(m.names(0, 1), "")
	case api.SSave:
		s.Text = m.name()
	}
	return s
}

// bodied returns a statement with statements in it.
func (m maker) bodied(deep int) api.Stmt {
	s := api.Stmt{Op: pick(m, []api.StmtOp{api.SIf, api.SLoop, api.SWhile, api.SFor, api.SEach, api.SBlock})}
	many := 1
	switch s.Op {
	case api.SIf:
		s.Exprs = m.exprsOf(1, 3)
		many = len(s.Exprs) + m.IntN(2)
	case api.SWhile:
		s.Exprs = m.exprsOf(1, 1)
	case api.SFor:
		s.Text, s.Exprs, s.Back = m.name(), m.exprsOf(2, 2), m.flip()
		s.Back = s.Back || s.Exprs[0].Op == api.EQuery
	case api.SEach:
		s.Text = m.name()
		if m.flip() {
			s.Query = []api.Query{m.query()}
		} else {
			s.Path = m.names(1, 1)
		}
	case api.SBlock:
		s.Block = []api.Block{m.block(deep)}
		return s
	}
	for range many {
		s.Bodies = append(s.Bodies, m.row(deep))
	}
	return s
}

func (m maker) sub(name string) api.Sub {
	s := api.Sub{Name: name, Fun: m.flip(), Auto: m.flip(), Block: m.block(2)}
	s.Params = list(m, 0, 3, func() api.Param {
		return api.Param{Name: m.name(), Mode: api.Mode(1 + m.IntN(3)), Type: m.typed()}
	})
	if s.Fun {
		s.Ret.Base = m.base()
	}
	return s
}

func (m maker) table() api.Table {
	var t api.Table
	for i, name := range []string{"a", "b", "c"}[:1+m.IntN(3)] {
		t.Cols = append(t.Cols, api.Column{Name: name, Type: m.base(), NotNull: m.flip(), Default: m.exprsOf(0, 1)})
		c := api.Constraint{Name: fmt.Sprint("k", i), Op: api.ConOp(1 + m.IntN(4)), Late: m.flip(), Cols: []string{"a", name}[min(i, m.IntN(2)):]}
		switch {
		case i == 0:
			c.Cols = c.Cols[:1]
		case c.Op == api.KPrimary:
			c.Op = api.KUnique
		}
		switch c.Op {
		case api.KForeign:
			c.Table = m.names(1, 2)
		case api.KCheck:
			c.Cols, c.Expr = nil, m.exprsOf(1, 1)
		}
		t.Cons = append(t.Cons, c)
	}
	return t
}

func (m maker) unit(kind api.ObjKind, name string) api.Unit {
	u := api.Unit{Invoker: kind != api.OTrigger && m.flip()}
	switch kind {
	case api.OProc:
		u.Subs = []api.Sub{m.sub(name)}
	case api.OPackage:
		u.Decls = list(m, 0, 3, m.decl)
		u.Subs = list(m, 0, 3, func() api.Sub {
			s := m.sub(m.name())
			s.Private = m.flip()
			return s
		})
	case api.OTrigger:
		u.Subs = []api.Sub{{Name: name, Block: m.block(2)}}
		g := api.Trigger{Before: m.flip(), Each: m.flip(), On: m.names(1, 2)}
		g.Events = list(m, 1, 3, func() api.Event {
			v := api.Event{Op: api.ChangeOp(1 + m.IntN(3))}
			if v.Op == api.CUpdate {
				v.Cols = m.names(0, 3)
			}
			return v
		})
		if g.Each {
			g.When = m.exprsOf(0, 1)
		}
		u.On = []api.Trigger{g}
	}
	return u
}

func (m maker) object() api.Object {
	o := api.Object{Owner: strings.Join(m.names(0, 1), ""), Name: m.name(), Kind: api.ObjKind(1 + m.IntN(7))}
	switch o.Kind {
	case api.OTable:
		o.Table = []api.Table{m.table()}
	case api.OView:
		q := m.query()
		q.Lock = false
		o.View = []api.Query{q}
	case api.OIndex:
		o.Index = []api.Index{{On: m.names(1, 2), Cols: []string{"a", "b", "c"}[:1+m.IntN(3)]}}
	case api.OSerial:
		o.Serial = []api.Serial{{Start: m.IntN(9) - 4, By: 1 + m.IntN(3), Cache: 1 + m.IntN(100)}}
		if m.flip() {
			o.Serial[0].By *= -1
		}
	default:
		o.Unit = []api.Unit{m.unit(o.Kind, o.Name)}
	}
	return o
}

func (m maker) def() api.Def {
	d := api.Def{Op: api.DefOp(1 + m.IntN(6)), Path: m.names(1, 2)}
	switch d.Op {
	case api.FCreate:
		d.Object, d.Path = m.object(), nil
		d.Replace = (d.Object.Kind == api.OView || d.Object.Kind >= api.OProc) && m.flip()
	case api.FDrop:
		d.Object = dropped(api.ObjKind(1+m.IntN(7)), "a", m.flip()).Object
	case api.FAdd:
		d.Object = altering("t", m.name(), m.base()).Object
	case api.FGrant, api.FRevoke:
		d.Right, d.To = api.Right(1+m.IntN(5)), pick(m, []string{"a", "all", "b1"})
	case api.FUser:
		d.To, d.Path = m.name(), nil
	}
	return d
}

func (m maker) item() unit.Item {
	switch m.IntN(4) {
	case 0:
		return unit.Item{Block: []api.Block{m.block(2)}}
	case 1:
		return unit.Item{Query: []api.Query{m.query()}}
	case 2:
		return unit.Item{Change: []api.Change{pick(m, m.changes)}}
	}
	return unit.Item{Def: []api.Def{m.def()}}
}

func (m maker) script() []unit.Item { return list(m, 0, 4, m.item) }

// expectRoundTrip expects that trees that a closure makes are what their strings are read as.
func expectRoundTrip[T any](t *testing.T, k kind[T], many int, make func() T) {
	t.Helper()
	for range many {
		x := make()
		s, code := k.text(x)
		if code == api.ErrLimit && k.valid(x) { // it is too long
			continue
		}
		if got, f := k.parse(s); code != api.OK || f != (api.Fault{}) || !k.same(got, x) || !reflect.DeepEqual(bare(got), bare(x)) || k.string(t, got) != s {
			t.Fatalf("%.300q: %d %v %s, want %s", s, code, f, short(got), short(x))
		}
	}
}

// P5.5
func TestRoundTrip(t *testing.T) {
	m := newMaker()
	expectRoundTrip(t, blocks(), 2000, func() api.Block { return m.block(3) })
	expectRoundTrip(t, defs(), 3000, m.def)
	expectRoundTrip(t, scripts(), 1000, m.script)
}

// P5.5: of trees with one alteration, if they are valid, also where that is in what layers 3 and 4 have.
func TestRoundTripOfAltered(t *testing.T) {
	right := 0
	for _, x := range blockSamples() {
		for _, b := range altered(x.tree) {
			if unit.ValidBlock(b) {
				blocks().expectRight(t, x.text, b)
				right++
			} else {
				blocks().expectWrong(t, x.text, b)
			}
		}
	}
	for _, x := range defSamples() {
		for _, d := range altered(x.tree) {
			if unit.ValidDef(d) {
				defs().expectRight(t, x.text, d)
				right++
			} else {
				defs().expectWrong(t, x.text, d)
			}
		}
	}
	if right < 1000 {
		t.Error("too few were valid:", right)
	}
}

// P5.5: of strings, however their tokens stand.
func TestRoundTripOfStrings(t *testing.T) {
	spread := func(s string) string { return "--\n " + strings.ReplaceAll(s, " ", " -- ' ;\n\t\r ") }
	for _, x := range blockSamples() {
		if len(spread(x.want)) > api.MaxSource {
			continue
		}
		if got := blocks().tree(t, spread(x.want)); !unit.SameBlock(got, x.tree) {
			t.Errorf("%q: %s", x.want, short(got))
		}
	}
	for _, x := range defSamples() {
		if got := defs().tree(t, spread(x.want)); !unit.SameDef(got, x.tree) {
			t.Errorf("%q: %s", x.want, short(got))
		}
	}
}

// P5.6: of two scripts, one behind the other; the second ones' items stand further down.
func TestTwoScripts(t *testing.T) {
	m := newMaker()
	for range 1000 {
		a, b := m.script(), m.script()
		s, code := unit.Text(a)
		u, other := unit.Text(b)
		if code != api.OK || other != api.OK || len(s)+len(u) > api.MaxSource {
			continue
		}
		l, f := lex.Lex(s + u)
		if len(l) > api.MaxTokens || f.Code != api.OK {
			continue
		}
		for _, both := range []string{s + u, s + "-- '\n" + u, strings.TrimSpace(s) + strings.TrimSpace(u)} {
			if got := scripts().tree(t, both); !scripts().same(got, slices.Concat(a, b)) {
				t.Fatalf("%q", both)
			}
		}
	}
}

// P5.3: each item has the position of its first token.
func TestItemPositions(t *testing.T) {
	m := newMaker()
	for range 300 {
		l := m.script()
		s, code := unit.Text(l)
		if code != api.OK {
			continue
		}
		for i, x := range scripts().tree(t, s) {
			if x.Line != i+1 || x.Col != 1 {
				t.Fatalf("%q: %d:%d", s, x.Line, x.Col)
			}
		}
	}
}

// wants returns the strings of samples.
func wants[T any](l []sample[T]) []string {
	var all []string
	for _, x := range l {
		all = append(all, x.want)
	}
	return all
}

// expectKept expects that a fault stays the first one, whatever tokens stand behind it, unless it is that the string ends.
func expectKept[T any](t *testing.T, k kind[T], more []string, s string) int {
	t.Helper()
	_, f := k.parse(s)
	if f.Code == api.OK || f.Code == api.ErrEnd {
		return 0
	}
	for _, behind := range more {
		if _, g := k.parse(s + " " + behind); g != f {
			t.Fatalf("%q: %v, but with %q behind it %v", s, f, behind, g)
		}
	}
	return 1
}

// isWhole reports whether a fault is one of what has been read to its end.
func isWhole[T any](k kind[T], s string) bool {
	_, f := k.parse(s)
	return f.Code == api.ErrDeep || f.Code == api.ErrLimit && f.Name == ""
}

// alteredStrings calls a closure with strings of samples, with a token more, less, or another one.
func alteredStrings(m maker, many int, look func(s string)) {
	all := append(wants(blockSamples()), wants(defSamples())...)
	for range many {
		words := strings.Fields(pick(m, all))
		at := m.IntN(len(words))
		words[at] = pick(m, []string{"", "a", ")", "; ;", "?", "1099511627777", "end", "select", "begin", "for", "( select", "1", "''", "exception", strings.Repeat("m", 31)})
		look(strings.Join(words[:m.IntN(len(words)-at)+at+1], " "))
	}
}

// P5.7: what stands behind a fault does not change it; but behind a block or definition that is whole nothing may stand.
func TestFirstFaultStays(t *testing.T) {
	more := append([]string{"a", ")", "; begin end;", "'a' 'b'", "1", "end; ) (", "\n-- a", times(200, "x", " ")}, wants(defSamples())[:5]...)
	kept := 0
	alteredStrings(newMaker(), 1500, func(s string) {
		if !isWhole(blocks(), s) && !isWhole(defs(), s) {
			kept += expectKept(t, blocks(), more, s) + expectKept(t, defs(), more, s)
		}
		kept += expectKept(t, scripts(), more, s) + expectKept(t, scripts(), more, "drop table t; "+s)
	})
	for _, s := range []string{"begin " + strings.Repeat("null;", 51) + " end;", "begin a := " + deep(41) + "; end;", "create index i on t (a, a);", "create view v as select a from t where " + deep(40) + ";"} {
		kept += expectKept(t, scripts(), more, s)
	}
	if kept < 1000 {
		t.Error("too few had faults:", kept)
	}
}

// expectLexFirst expects that the fault of layer 2 is the first one, if there is one.
func expectLexFirst[T any](t *testing.T, k kind[T], s string) int {
	t.Helper()
	_, want := lex.Lex(s)
	if want.Code == api.OK {
		return 0
	}
	k.expectFault(t, s, want.Code, want.Name, want.Line, want.Col)
	return 1
}

// P5.1 to P5.3: the fault of layer 2 comes first, wherever others are.
func TestFaultOfLexFirst(t *testing.T) {
	found := 0
	alteredStrings(newMaker(), 1500, func(s string) {
		for _, behind := range []string{"", " ?", "\n\n'a", ") " + strings.Repeat("m", 31), "; 1099511627777", "\xe5"} {
			found += expectLexFirst(t, blocks(), s+behind) + expectLexFirst(t, defs(), s+behind) + expectLexFirst(t, scripts(), s+behind)
		}
	})
	if found < 10000 {
		t.Error("too few had faults:", found)
	}
}

// Totality: trees with great lists, or without an end, are not valid, and great ones are the same as themselves.
func TestBoundless(t *testing.T) {
	circle := row(api.Stmt{Op: api.SLoop})
	circle[0].Bodies = [][]api.Stmt{circle}
	round := []api.Block{{}}
	round[0].Body = row(api.Stmt{Op: api.SBlock, Block: round})
	twice := row(only(api.SNull))
	below := row(only(api.SNull))
	for i := range 1 << 16 {
		below = row(api.Stmt{Op: api.SLoop, Bodies: bodies(below)})
		if i < 100 {
			twice = row(branches(exs("a"), twice, twice))
		}
	}
	const many = 1 << 17
	for i, b := range []api.Block{
		{Body: circle}, round[0], {Body: twice}, {Body: below}, {Body: slices.Repeat(row(only(api.SNull)), many)}, {Decls: slices.Repeat([]api.Decl{exception("a")}, many)}, {When: slices.Repeat([]api.Handler{handler("a")}, many)}, {When: []api.Handler{{Names: slices.Repeat(path("a"), many)}}},
		{Body: row(api.Stmt{Op: api.SCall, Path: slices.Repeat(path("a"), many)})}, {Body: row(api.Stmt{Op: api.SCall, Path: path("a"), Exprs: slices.Repeat(exs("a"), many)})}, {Body: row(api.Stmt{Op: api.SIf, Exprs: slices.Repeat(exs("a"), many), Bodies: make([][]api.Stmt, many)})}, {Body: row(api.Stmt{Op: api.SFetch, Path: path("a"), Target: slices.Repeat(exs("a"), many)})},
	} {
		what := fmt.Sprint("block ", i)
		blocks().expectWrong(t, what, b)
		scripts().expectWrong(t, what, []unit.Item{{Block: []api.Block{b}}})
		defs().expectWrong(t, what, created(program("", procedure("p", b))))
		if i > 2 && !unit.SameBlock(b, b) {
			t.Error(what, "is not the same")
		}
	}
	cols, keys := slices.Repeat(abc(), many), slices.Repeat(path("a"), many)
	for i, o := range []api.Object{table("t", cols), table("t", abc(), slices.Repeat([]api.Constraint{check("c", "a")}, many)...), table("t", abc(), api.Constraint{Op: api.KUnique, Name: "c", Cols: keys}), {Name: "i", Kind: api.OIndex, Index: []api.Index{{On: keys, Cols: path("a")}}}, {Name: "i", Kind: api.OIndex, Index: []api.Index{{On: path("a"), Cols: keys}}}, pack("k", slices.Repeat([]api.Decl{exception("a")}, many)), pack("k", nil, slices.Repeat([]api.Sub{procedure("p", api.Block{})}, many)...), program("", procedure("p", api.Block{}, slices.Repeat([]api.Param{param("a", api.In, api.VInt)}, many)...)), {Name: strings.Repeat("a", many), Kind: api.OPackage, Unit: make([]api.Unit, 1)}, trigger("g", api.Block{}, api.Trigger{Events: slices.Repeat(events(event(api.CInsert)), many), On: path("t")}), trigger("g", api.Block{}, api.Trigger{Events: events(api.Event{Op: api.CUpdate, Cols: keys}), On: path("t")})} {
		defs().expectWrong(t, fmt.Sprint("object ", i), created(o))
		if !unit.SameDef(created(o), created(o)) {
			t.Error("object", i, "is not the same")
		}
	}
	if s, code := unit.Text(make([]unit.Item, many)); s != "" || code != api.ErrLimit {
		t.Error(len(s), code)
	}
}
