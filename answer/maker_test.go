package answer_test

import (
	"fmt"
	"math/rand/v2"
	"slices"
	"strings"
	"testing"

	"justiciar/api"
	"justiciar/value"
)

// maker makes images, expressions and queries by chance, the same ones in each run. With the string of each it makes a closure that reckons its value or rows: by the names of sources, which are all different, not by trees.
type maker struct {
	*rand.Rand
	call
	names    int  // of sources
	combined int  // combinations of rows that were reckoned
	single   bool // no source says as of which time it is read, and there are no binds
}

// env is what an expression is reckoned with: rows by the names of their sources, and the index of the image that is read. Of a group of rows it has those of the first one.
type env struct {
	rows  map[string]api.Row
	image int
	group []env
}

// made is an expression.
type made struct {
	text  string
	kind  api.Kind
	col   string // of a column: the name of its source
	plain bool   // a constant or a bind
	joins bool   // an and
	equal bool   // a simple part, if it stands as a part of its query's Where
	val   func(v env) api.Value
}

// column is one of a source.
type column struct {
	source, name string
	kind         api.Kind
	at           int
}

// place is where expressions are made: the columns that they may name, of their own query and of those around it, and, of a grouped query, by what that is.
type place struct {
	own, around []column
	grouped     bool
	by          []made
	deep        int // queries around it
}

func (m *maker) pick(l ...string) string { return l[m.IntN(len(l))] }

func (m *maker) chance(in int) bool { return m.IntN(in) == 0 }

// wanted returns the value that layer 1 gives, or raises its error.
func wanted(v api.Value, code api.Errno) api.Value {
	if code != api.OK {
		panic(code)
	}
	return v
}

// value returns one of few values of a kind.
func (m *maker) value(k api.Kind) api.Value {
	switch {
	case m.chance(7):
		return api.Value{}
	case k == api.VInt:
		return number(m.IntN(4))
	case k == api.VText:
		return text(m.pick("", "x", "y", "1"))
	}
	return truth(m.chance(2))
}

func (m *maker) stored(name string, most int, kinds ...api.Kind) api.Stored {
	s := api.Stored{Owner: "u", Name: name, Next: 1}
	for range m.IntN(8) * most / 7 {
		var r api.Row
		for _, k := range kinds {
			r = append(r, m.value(k))
		}
		if m.chance(6) {
			r = r[:m.IntN(len(r)+1)]
		}
		s.Next += m.IntN(3)
		s.Rows = append(s.Rows, api.Held{Id: s.Next, Row: r})
		s.Next++
	}
	return s
}

// start returns a maker with tables, views, images of the times 1, 3 and 4, and binds.
func start(t *testing.T, seed uint64, most int) *maker {
	t.Helper()
	m := &maker{Rand: rand.New(rand.NewPCG(9, seed))}
	m.user = "u"
	m.c = after(t, users(t, "u"), "u: create table t (a int, b text, c bool);", "u: create table s (a int, d int);",
		"u: create view v as select a, b as n from t where c;", "u: create view g as select b, count(*) as n, sum(a) as s from t group by b;",
		"u: create view p as select a from s as of 3;", "u: create view o as select distinct n from v order by n desc;",
		"u: create index i on t (a, b);", "u: create index j on t (b, c);", "u: create index k on s (d, a);")
	for _, time := range []int{1, 3, 4} {
		l := []api.Stored{m.stored("s", most, api.VInt, api.VInt), m.stored("t", most, api.VInt, api.VText, api.VBool)}
		if m.chance(8) {
			l = l[1:]
		}
		m.l = append(m.l, api.Image{Time: time, Tables: l})
	}
	for i, k := range []api.Kind{api.VInt, api.VText, api.VBool} {
		m.binds = append(m.binds, api.Bind{Path: []string{fmt.Sprintf("q%d", i)}, Type: k, Val: m.value(k)})
	}
	return m
}

// rowsOf reckons the rows of a table or a view.
func (m *maker) rowsOf(name string, image int) []api.Row {
	var l []api.Row
	switch name {
	case "v":
		for _, r := range m.counted("t", image) {
			if r[2] == truth(true) {
				l = append(l, r[:2])
			}
		}
	case "g":
		for _, r := range m.counted("t", image) {
			i := slices.IndexFunc(l, func(one api.Row) bool { return one[0] == r[1] })
			if i < 0 {
				i = len(l)
				l = append(l, api.Row{r[1], number(0), {}})
			}
			l[i][1].N++
			if r[0].Kind == api.VInt {
				l[i][2] = number(l[i][2].N + r[0].N)
			}
		}
	case "p":
		for _, r := range m.counted("s", 1) { // as of 3
			l = append(l, r[:1])
		}
	case "o":
		for _, r := range m.counted("v", image) {
			if !slices.ContainsFunc(l, func(one api.Row) bool { return one[0] == r[1] }) {
				l = append(l, r[1:])
			}
		}
		slices.SortFunc(l, func(a, b api.Row) int {
			n, _ := value.Order(b[0], a[0])
			return n
		})
	default:
		for _, s := range m.l[image].Tables {
			for _, h := range s.Rows {
				if s.Name == name {
					l = append(l, append(slices.Clone(h.Row), make(api.Row, 3)...)[:3])
				}
			}
		}
	}
	return l
}

// counted reckons the rows of the only source of a query.
func (m *maker) counted(name string, image int) []api.Row {
	l := m.rowsOf(name, image)
	m.count(len(l))
	return l
}

func (m *maker) count(n int) {
	m.combined += n
	if m.combined > 50000 {
		panic(api.ErrLimit)
	}
}

func columnsOf(table string) []column {
	a, b, c := column{name: "a", kind: api.VInt}, column{name: "b", kind: api.VText, at: 1}, column{name: "c", kind: api.VBool, at: 2}
	n, d := column{name: "n", kind: api.VInt, at: 1}, column{name: "d", kind: api.VInt, at: 1}
	switch table {
	case "t":
		return []column{a, b, c}
	case "s":
		return []column{a, d}
	case "v":
		return []column{a, {name: "n", kind: api.VText, at: 1}}
	case "g":
		return []column{{name: "b", kind: api.VText}, n, {name: "s", kind: api.VInt, at: 2}}
	case "p":
		return []column{a}
	}
	return []column{{name: "n", kind: api.VText}}
}

// source is one of a query: its string, its name, its columns, and the index of the image that it reads, given that of its query.
type source struct {
	text, name, table string
	cols              []column
	image             func(image int) int
}

func (m *maker) source() source {
	m.names++
	s := source{name: fmt.Sprintf("z%d", m.names), table: m.pick("t", "t", "s", "s", "v", "g", "o", "p")}
	if m.single && s.table == "p" {
		s.table = "t"
	}
	for _, col := range columnsOf(s.table) {
		col.source = s.name
		s.cols = append(s.cols, col)
	}
	s.text, s.image = s.table, func(image int) int { return image }
	if !m.single && m.chance(6) {
		time := m.IntN(6)
		if m.chance(2) {
			time = 1 + m.IntN(4)
		}
		s.text += fmt.Sprint(" as of ", time)
		s.image = func(int) int {
			switch {
			case time > 4:
				panic(api.ErrRange)
			case time < 1:
				panic(api.ErrOld)
			case time < 3:
				return 0
			}
			return time - 2
		}
	}
	s.text += " " + s.name
	return s
}

// reckoned is a query that was made: its string, of which kinds its columns are, and a closure that reckons its rows.
type reckoned struct {
	text  string
	kinds []api.Kind
	rows  func(v env) []api.Row
}

// parts of a query that is made.
type parts struct {
	sources          []source
	where            []made // parts, without and between them
	by, list, order  []made
	having           []made
	desc             []bool
	distinct, groups bool
}

// from returns the sources and the Where of a query.
func (m *maker) from(around []column, deep int) (parts, place) {
	x, p := parts{}, place{around: around, deep: deep}
	for range 1 + m.IntN(2) + m.IntN(2)*m.IntN(2) {
		s := m.source()
		x.sources = append(x.sources, s)
		p.own = append(p.own, s.cols...)
	}
	for range m.IntN(3) {
		x.where = append(x.where, m.part(p))
	}
	return x, p
}

// query returns a query that selects something of some kinds (none: whatever).
func (m *maker) query(around []column, deep int, kinds ...api.Kind) reckoned {
	x, p := m.from(around, deep)
	x.groups = m.chance(3)
	if x.groups {
		p = m.group(&x, p)
	}
	if len(kinds) == 0 {
		for range 1 + m.IntN(3) {
			kinds = append(kinds, m.kind())
		}
	}
	for _, k := range kinds {
		x.list = append(x.list, m.expr(p, k, 2))
	}
	x.distinct = m.chance(4)
	for range m.IntN(3) {
		o := x.list[m.IntN(len(x.list))]
		if !x.distinct && m.chance(2) {
			o = m.expr(p, m.kind(), 1)
		}
		x.order, x.desc = append(x.order, o), append(x.desc, m.chance(2))
	}
	return reckoned{x.text(), kinds, func(v env) []api.Row { return m.reckon(&x, v) }}
}

// group makes a query grouped, and returns the place of what is calculated of groups.
func (m *maker) group(x *parts, p place) place {
	for range m.IntN(3) {
		x.by = append(x.by, m.expr(p, m.kind(), 1))
	}
	p.grouped, p.by = true, x.by
	if m.chance(3) {
		x.having = []made{m.expr(p, api.VBool, 2)}
	} else if len(x.by) == 0 {
		x.having = []made{{text: "count(*) >= 0", kind: api.VBool, val: func(env) api.Value { return truth(true) }}}
	}
	return p
}

func (m *maker) kind() api.Kind { return api.Kind(1 + m.IntN(3)) }

func texts(l []made) []string {
	var out []string
	for _, e := range l {
		out = append(out, e.text)
	}
	return out
}

func (x *parts) text() string {
	s := "select "
	if x.distinct {
		s += "distinct "
	}
	s += strings.Join(texts(x.list), ", ") + " from "
	for i, one := range x.sources {
		if i > 0 {
			s += ", "
		}
		s += one.text
	}
	for _, clause := range []struct {
		word, between string
		l             []made
	}{{" where ", " and ", x.where}, {" group by ", ", ", x.by}, {" having ", "", x.having}} {
		if len(clause.l) > 0 {
			s += clause.word + strings.Join(texts(clause.l), clause.between)
		}
	}
	for i, e := range x.order {
		s += []string{" order by ", ", "}[min(i, 1)] + e.text + map[bool]string{true: " desc"}[x.desc[i]]
	}
	return s
}
