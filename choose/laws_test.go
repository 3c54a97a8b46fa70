package choose_test

import (
	"fmt"
	"math/rand/v2"
	"slices"
	"strings"
	"testing"

	"justiciar/api"
	"justiciar/choose"
)

// maker makes catalogs, images and queries by chance, the same ones in each run, and knows what it has made.
type maker struct {
	*rand.Rand
	call
	names   int       // of indexes
	sources []written // of the query
	simple  []simple  // parts of its Where, in order
	spoken  []string  // the columns of its Where, as z1.a
}

// written is a source: its name, its table (none of a view), and whether it is read as of a time.
type written struct {
	name  string
	table [2]string
	asOf  bool
	cols  []api.Column
}

// simple is a simple part of Where.
type simple struct {
	source int
	col    string
	val    api.Value
}

func (m *maker) pick(l ...string) string { return l[m.IntN(len(l))] }

func (m *maker) chance(in int) bool { return m.IntN(in) == 0 }

// value returns one of few values of a kind.
func (m *maker) value(k api.Kind) api.Value {
	switch {
	case m.chance(8):
		return api.Value{}
	case k == api.VInt:
		return number(m.IntN(3))
	case k == api.VText:
		return text(m.pick("", "x", "it's"))
	}
	return truth(m.IntN(2))
}

func literal(v api.Value) string {
	switch {
	case v.Kind == api.VNull:
		return "null"
	case v.Kind == api.VInt:
		return fmt.Sprint(v.N)
	case v.Kind == api.VText:
		return "'" + strings.ReplaceAll(v.Text, "'", "''") + "'"
	}
	return map[int]string{0: "false", 1: "true"}[v.N]
}

// start returns a maker with a catalog of some indexes, an image and binds.
func start(t *testing.T, seed uint64) *maker {
	t.Helper()
	m := &maker{Rand: rand.New(rand.NewPCG(8, seed))}
	m.user = "u"
	m.c = after(t, users(t, "a", "u", "w"), "u: create table t (a int, b text, c bool, d int);", "u: create table s (a int, b bool);", "w: create table t (a text, b int, c int);", "u: create view v as select a, b from t;")
	for range m.IntN(9) {
		m.c = after(t, m.c, m.index(m.columns(m.tables()[m.IntN(3)])))
	}
	m.m.Time = m.IntN(5)
	for _, o := range m.tables() {
		if !m.chance(8) {
			m.m.Tables = append(m.m.Tables, m.stored(o))
		}
	}
	for i, k := range []api.Kind{api.VInt, api.VInt, api.VText, api.VBool} {
		m.binds = append(m.binds, api.Bind{Path: []string{fmt.Sprintf("v%d", i)}, Type: k, Val: m.value(k)})
	}
	return m
}

func (m *maker) tables() []api.Object {
	return slices.DeleteFunc(slices.Clone(m.c.Objects), func(o api.Object) bool { return o.Kind != api.OTable })
}

// columns returns a table's path and the names of its columns, in an order by chance.
func (m *maker) columns(o api.Object) (string, []string) {
	var l []string
	for _, col := range o.Table[0].Cols {
		l = append(l, col.Name)
	}
	m.Shuffle(len(l), func(i, j int) { l[i], l[j] = l[j], l[i] })
	return o.Owner + "." + o.Name, l
}

// index returns the definition of an index by some of the columns.
func (m *maker) index(path string, cols []string) string {
	m.names++
	return fmt.Sprintf("%s: create index i%d%d on %s (%s);", m.pick(m.c.Users...), m.IntN(10), m.names, path, strings.Join(cols[:1+m.IntN(len(cols))], ", "))
}

func (m *maker) stored(o api.Object) api.Stored {
	s := api.Stored{Owner: o.Owner, Name: o.Name, Next: 1}
	for range m.IntN(25) {
		var r api.Row
		for _, col := range o.Table[0].Cols {
			r = append(r, m.value(col.Type))
		}
		if m.chance(5) {
			r = r[:m.IntN(len(r)+1)]
		}
		s.Next += m.IntN(3)
		s.Rows = append(s.Rows, api.Held{Id: s.Next, Row: r})
		s.Next++
	}
	return s
}

// query returns a query, of which it knows the simple parts.
func (m *maker) query(t *testing.T) api.Query {
	t.Helper()
	m.sources, m.simple, m.spoken = nil, nil, nil
	var from []string
	for range 1 + m.IntN(3) {
		from = append(from, m.source())
	}
	s := "select 1 from " + strings.Join(from, ", ")
	if !m.chance(9) {
		s += " where " + m.parts(m.IntN(8))
	}
	return queryOf(t, s)
}

func (m *maker) source() string {
	x := written{name: fmt.Sprintf("z%d", len(m.sources))}
	path := m.pick("t", "t", "u.t", "s", "w.t", "v")
	if path == "v" {
		x.cols = []api.Column{{Name: "a", Type: api.VInt}, {Name: "b", Type: api.VText}}
	}
	for _, o := range m.tables() {
		if path == o.Owner+"."+o.Name || path == o.Name && o.Owner == m.user {
			x.table, x.cols = [2]string{o.Owner, o.Name}, o.Table[0].Cols
		}
	}
	if m.chance(6) {
		path, x.asOf = path+" as of 1", true
	}
	m.sources = append(m.sources, x)
	return path + " " + x.name
}

// parts returns parts between which there is and, with brackets by chance.
func (m *maker) parts(n int) string {
	if n == 0 {
		return m.part()
	}
	left := m.IntN(n)
	a := m.parts(left)
	return "(" + a + " and " + m.parts(n-1-left) + ")"
}

func (m *maker) part() string {
	i := m.IntN(len(m.sources))
	x := m.sources[i]
	col := x.cols[m.IntN(len(x.cols))]
	name := x.name + "." + col.Name
	m.spoken = append(m.spoken, name)
	v := m.value(col.Type)
	if !m.chance(4) {
		other := literal(v)
		if m.chance(3) {
			b := slices.IndexFunc(m.binds, func(b api.Bind) bool { return b.Type == col.Type })
			v, other = m.binds[b].Val, m.binds[b].Path[0]
		}
		m.simple = append(m.simple, simple{i, col.Name, v})
		if m.chance(2) {
			return other + " = " + name
		}
		return name + " = " + other
	}
	is := name + " = " + literal(v)
	return m.pick(name+" = "+name, name+" <> "+literal(v), "("+is+" or "+is+")", "not ("+is+")", "("+is+") = true", name+" in ("+literal(v)+")", name+" is null", name+" >= "+literal(v),
		"exists (select 1 from u.s y where "+is+" and y.a = 1)", "1 = 1", name+" = nvl("+name+", "+literal(v)+")", "case when "+is+" then true end")
}

// expected returns all ways to a source and what they cost, by what the maker knows.
func (m *maker) expected(source int) ([]api.Way, []int) {
	x := m.sources[source]
	ways, costs := []api.Way{{}}, []int{m.count(source, nil)}
	for _, o := range m.c.Objects {
		if o.Kind != api.OIndex || [2]string(o.Index[0].On) != x.table || x.asOf {
			continue
		}
		for n := 1; n <= len(o.Index[0].Cols) && m.has(source, o.Index[0].Cols[n-1]); n++ {
			ways = append(ways, api.Way{Owner: o.Owner, Name: o.Name, Cols: n})
			costs = append(costs, 3+m.count(source, o.Index[0].Cols[:n]))
		}
	}
	return ways, costs
}

func (m *maker) has(source int, col string) bool {
	return slices.ContainsFunc(m.simple, func(s simple) bool { return s.source == source && s.col == col })
}

// count returns in how many rows of a source columns are as the first part of each of them says.
func (m *maker) count(source int, cols []string) int {
	x, n := m.sources[source], 0
	for _, s := range m.m.Tables {
		if [2]string{s.Owner, s.Name} != x.table {
			continue
		}
		for _, h := range s.Rows {
			all := true
			for _, name := range cols {
				i := slices.IndexFunc(x.cols, func(c api.Column) bool { return c.Name == name })
				first := m.simple[slices.IndexFunc(m.simple, func(s simple) bool { return s.source == source && s.col == name })]
				all = all && i < len(h.Row) && h.Row[i] == first.val && first.val.Kind != api.VNull
			}
			if all {
				n++
			}
		}
	}
	return n
}

// walk makes queries by chance, and shows a closure each of them.
func walk(t *testing.T, seed uint64, look func(m *maker, q api.Query)) {
	t.Helper()
	for n := range uint64(150) {
		m := start(t, seed+n)
		for range 12 {
			look(m, m.query(t))
		}
	}
}

// least returns the best way of some: of those that cost as little as it the one through all rows, else by most columns, else the first.
func least(ways []api.Way, costs []int) api.Way {
	n := slices.Min(costs)
	if costs[0] == n {
		return ways[0]
	}
	most := 0
	for i, w := range ways {
		if costs[i] == n {
			most = max(most, w.Cols)
		}
	}
	for i, w := range ways {
		if costs[i] == n && w.Cols == most {
			return w
		}
	}
	return api.Way{}
}

// TestLawWays: P8.2 to P8.4, P8.5 and P8.6, against what the maker knows of its queries.
func TestLawWays(t *testing.T) {
	seen := map[string]int{}
	walk(t, 0, func(m *maker, q api.Query) {
		best, code := m.best(t, q)
		if code != api.OK || len(best) != len(m.sources) {
			t.Fatalf("%s: %v, error %d", m.shown(q), best, code)
		}
		var some []api.Way
		for source := range m.sources {
			ways, costs := m.expected(source)
			if got, code := m.ways(t, q, source); code != api.OK || !slices.Equal(got, ways) {
				t.Errorf("%s, source %d: %s, error %d, want %s", m.shown(q), source, shownAll(got), code, shownAll(ways))
			}
			if want := least(ways, costs); best[source] != want {
				t.Errorf("%s, source %d: the best is %s, want %s", m.shown(q), source, shown(best[source]), shown(want))
			}
			m.expectCosts(t, q, source, ways, costs)
			some = append(some, ways[m.IntN(len(ways))])
			seen[fmt.Sprint("best by ", best[source].Cols)]++
		}
		m.expectAre(t, q, some)
	})
	for n := range 4 {
		if seen[fmt.Sprint("best by ", n)] < 20 {
			t.Error(seen)
		}
	}
}

func (m *maker) shown(q api.Query) string { return fmt.Sprint(m.sources, m.simple, encoded(q.Where)) }

func (m *maker) expectCosts(t *testing.T, q api.Query, source int, ways []api.Way, costs []int) {
	t.Helper()
	for i, w := range ways {
		n, code := choose.Cost(m.c, m.user, m.binds, q, m.m, source, w)
		if code != api.OK || n != costs[i] {
			t.Errorf("%s, source %d: %s costs %d, error %d, want %d", m.shown(q), source, shown(w), n, code, costs[i])
		}
		if w.Cols > 1 && n > costs[i-1] {
			t.Errorf("%s, source %d: %s costs %d, by one column less %d", m.shown(q), source, shown(w), n, costs[i-1])
		}
	}
	for _, w := range []api.Way{{Owner: "u", Name: "t", Cols: 1}, {Cols: 1}, {Owner: ways[len(ways)-1].Owner, Name: ways[len(ways)-1].Name, Cols: ways[len(ways)-1].Cols + 1}} {
		if _, code := choose.Cost(m.c, m.user, m.binds, q, m.m, source, w); code != api.ErrNone {
			t.Errorf("%s, source %d: %s costs, error %d", m.shown(q), source, shown(w), code)
		}
	}
}

// expectAre expects that ways are those of a query, and that others are not.
func (m *maker) expectAre(t *testing.T, q api.Query, l []api.Way) {
	t.Helper()
	if ok, code := m.are(t, q, l); !ok || code != api.OK {
		t.Errorf("%s: %s are not, error %d", m.shown(q), shownAll(l), code)
	}
	for i := range l {
		for _, w := range append(slices.Clone(l), api.Way{Owner: "u", Name: "i1", Cols: 1}) {
			other := slices.Clone(l)
			other[i] = w
			ways, _ := m.expected(i)
			if ok, code := choose.Are(m.c, m.user, m.binds, q, other); ok != slices.Contains(ways, w) || code != api.OK {
				t.Errorf("%s: %s are: %v, error %d", m.shown(q), shownAll(other), ok, code)
			}
		}
	}
	for _, other := range [][]api.Way{l[1:], append(slices.Clone(l), api.Way{})} {
		if ok, code := m.are(t, q, other); ok || code != api.OK {
			t.Errorf("%s: %s are, error %d", m.shown(q), shownAll(other), code)
		}
	}
}

// costsOf returns what the best ways cost.
func (m *maker) costsOf(t *testing.T, q api.Query, best []api.Way) []int {
	t.Helper()
	var l []int
	for source, w := range best {
		n, code := m.cost(t, q, source, w)
		if code != api.OK {
			t.Errorf("%s, source %d: the cost of %s: error %d", m.shown(q), source, shown(w), code)
		}
		l = append(l, n)
	}
	return l
}

// TestLawIndexes: P8.7.
func TestLawIndexes(t *testing.T) {
	less, unspoken := 0, 0
	walk(t, 1000, func(m *maker, q api.Query) {
		before, code := m.best(t, q)
		costs := m.costsOf(t, q, before)
		was := m.c
		path, cols := m.columns(m.tables()[m.IntN(3)])
		if m.chance(2) {
			cols = m.silent(path, cols)
		}
		if len(cols) == 0 {
			return
		}
		m.c = after(t, m.c, m.index(path, cols))
		best, codeAfter := m.best(t, q)
		if code != api.OK || codeAfter != api.OK {
			t.Fatal(code, codeAfter)
		}
		for source, n := range m.costsOf(t, q, best) {
			if n > costs[source] {
				t.Errorf("%s, source %d: %s costs %d, with an index less %s %d", m.shown(q), source, shown(best[source]), n, shown(before[source]), costs[source])
			}
			if n < costs[source] {
				less++
			}
		}
		if len(m.silent(path, cols)) == len(cols) {
			unspoken++
			if !slices.Equal(best, before) {
				t.Errorf("%s: %s, with an index less %s", m.shown(q), shownAll(best), shownAll(before))
			}
		}
		m.c = was
	})
	if less < 20 || unspoken < 200 {
		t.Error(less, unspoken)
	}
}

// silent returns those of a table's columns that Where does not speak of.
func (m *maker) silent(path string, cols []string) []string {
	return slices.DeleteFunc(slices.Clone(cols), func(col string) bool {
		return slices.ContainsFunc(m.sources, func(x written) bool {
			return x.table[0]+"."+x.table[1] == path && slices.Contains(m.spoken, x.name+"."+col)
		})
	})
}
