package answer_test

import (
	"fmt"
	"regexp"
	"slices"
	"strings"
	"testing"

	"justiciar/answer"
	"justiciar/api"
	"justiciar/value"
)

// walk makes a maker for each seed, and shows it to a closure some times.
func walk(t *testing.T, seed, many uint64, times int, look func(m *maker)) {
	t.Helper()
	for n := range many {
		m := start(t, seed+n, []int{2, 4, 6, 9, 40}[n%5])
		for range times {
			look(m)
		}
	}
}

// plain returns the rows of a query without ways.
func (x call) plain(t *testing.T, s string) ([]api.Row, api.Errno) {
	t.Helper()
	return answer.Rows(x.c, x.user, x.binds, queryOf(t, s), x.l, nil)
}

// TestLawReckoned: P9.1, rows of queries by chance are those that are reckoned apart from the trees.
func TestLawReckoned(t *testing.T) {
	seen := map[string]int{}
	walk(t, 0, 300, 12, func(m *maker) {
		q := m.query(nil, 0)
		want, wantCode := m.answered(q)
		got, code := m.plain(t, q.text)
		if code != wantCode || shown(got) != shown(want) {
			t.Fatalf("%s\nbinds %v\nimages %v\n%s, error %d, want\n%s, error %d", q.text, m.binds, m.l, shown(got), code, shown(want), wantCode)
		}
		seen[fmt.Sprint(code, " ", len(got) > 0)]++
	})
	for _, code := range []api.Errno{api.OK, api.ErrZero, api.ErrRange, api.ErrMany, api.ErrOld, api.ErrLimit} {
		if seen[fmt.Sprint(code, " ", code == api.OK)] < 20 {
			t.Error(seen)
		}
	}
}

// TestLawWays: P9.7, by whichever indexes the rows are found, they are the same, and so is the error.
func TestLawWays(t *testing.T) {
	seen := map[bool]int{}
	walk(t, 1000, 200, 10, func(m *maker) {
		x, p := m.from(nil, 0)
		x.where = x.where[:len(x.where)/2]
		for range 1 + m.IntN(3) {
			x.where = append(x.where, m.equal(p.own[m.IntN(len(p.own))]))
		}
		m.Shuffle(len(x.where), func(i, j int) { x.where[i], x.where[j] = x.where[j], x.where[i] })
		x.list = []made{{text: everything(x.sources)}, m.expr(p, m.kind(), 2)}
		q := queryOf(t, x.text())
		want, wantCode := m.plain(t, x.text())
		lists := waysOf(t, m.call, q)
		for _, l := range []([]api.Way){lists[0], lists[m.IntN(len(lists))], lists[len(lists)-1]} {
			got, code := answer.Rows(m.c, m.user, m.binds, q, m.l, l)
			if code != wantCode || shown(got) != shown(want) {
				t.Errorf("%v by %v: %s, error %d, want %s, error %d", q, l, shown(got), code, shown(want), wantCode)
			}
			seen[len(got) > 0 && slices.ContainsFunc(l, func(w api.Way) bool { return w != api.Way{} })]++
		}
	})
	if seen[true] < 50 {
		t.Error(seen)
	}
}

// TestLawViews: P9.8, a query of a view is that of a table with the rows of the view's query.
func TestLawViews(t *testing.T) {
	seen := map[bool]int{}
	walk(t, 2000, 100, 5, func(m *maker) {
		m.single = true
		q := m.query(nil, 0, api.VInt, api.VText)
		rows, code := m.plain(t, q.text)
		x := m.call
		list, from, _ := strings.Cut(q.text, " from ")
		if strings.Contains(list, "(select ") || strings.Count(list, ", ") != 1 {
			return // the first comma does not stand between the two that are selected
		}
		x.c = after(t, x.c, "u: create view view1 as "+strings.Replace(list, ", ", " as x, ", 1)+" as y from "+from+";", "u: create table table1 (x int, y text);")
		table := api.Stored{Owner: "u", Name: "table1", Next: len(rows) + 1}
		for i, r := range rows {
			table.Rows = append(table.Rows, api.Held{Id: i + 1, Row: r})
		}
		x = x.with(table)
		for _, s := range []string{
			"select * from view1", "select y, x from view1 where x > 1", "select view1.y from s, view1 where s.a = view1.x", "select x, count(*), max(y) from view1 group by x",
			"select distinct y from view1 order by y desc", "select a, (select sum(x) from view1 where y <> 'x') from s where exists (select 1 from view1 z where z.x = s.a)",
		} {
			got, gotCode := x.plain(t, s)
			want, wantCode := x.plain(t, strings.ReplaceAll(s, "view1", "table1"))
			if code != api.OK && len(got) == 0 && (gotCode == code || gotCode == api.OK && strings.Contains(s, "from s ")) {
				seen[false]++
				continue
			}
			if gotCode != wantCode && gotCode != api.ErrLimit || gotCode == api.OK && shown(got) != shown(want) {
				t.Errorf("%s, %s: %s, error %d, want %s, error %d", q.text, s, shown(got), gotCode, shown(want), wantCode)
			}
			seen[len(got) > 1]++
		}
	})
	if seen[true] < 100 || seen[false] < 100 {
		t.Error(seen)
	}
}

// TestLawImages: P9.9, a query without AsOf hangs on the present image alone; as of a time all sources read what was present then.
func TestLawImages(t *testing.T) {
	sources := regexp.MustCompile(`\b([tsvgo]) (z\d+)`)
	seen := map[bool]int{}
	walk(t, 3000, 100, 10, func(m *maker) {
		m.single = true
		s := m.query(nil, 0).text
		want, wantCode := m.plain(t, s)
		x := m.call
		x.l = m.l[2:]
		if got, code := x.plain(t, s); code != wantCode || shown(got) != shown(want) {
			t.Errorf("%s: without the images of before %s, error %d, want %s, error %d", s, shown(got), code, shown(want), wantCode)
		}
		for time, n := range []int{0, 1, 1, 2, 3} {
			x.l = m.l[:n]
			asOf := sources.ReplaceAllString(s, fmt.Sprintf("$1 as of %d $2", time))
			got, code := m.plain(t, asOf)
			if n == 0 {
				if code != api.ErrOld {
					t.Errorf("%s: error %d", asOf, code)
				}
				continue
			}
			then, codeThen := x.plain(t, s)
			if code != codeThen || shown(got) != shown(then) {
				t.Errorf("%s: %s, error %d, then it was %s, error %d", asOf, shown(got), code, shown(then), codeThen)
			}
			seen[len(got) > 0 && shown(got) != shown(want)]++
		}
	})
	if seen[true] < 100 {
		t.Error(seen)
	}
}

// sorted returns rows in an order that hangs on their values alone.
func sorted(l []api.Row) string {
	all := strings.Split(shown(l), " | ")
	slices.Sort(all)
	return strings.Join(all, " | ")
}

// everything returns all columns of sources.
func everything(l []source) string {
	var all []string
	for _, s := range l {
		for _, c := range s.cols {
			all = append(all, s.name+"."+c.name)
		}
	}
	slices.Sort(all)
	return strings.Join(all, ", ")
}

// TestLawUnion: P9.10, rows with a or b are those with a and those with not a and b.
func TestLawUnion(t *testing.T) {
	seen := map[bool]int{}
	walk(t, 4000, 100, 10, func(m *maker) {
		x, p := m.from(nil, 0)
		x.list = []made{{text: everything(x.sources)}}
		x.where = nil
		a, b := m.expr(p, api.VBool, 2), m.expr(p, api.VBool, 2)
		a.text, b.text = "nvl("+a.text+", false)", "nvl("+b.text+", true)" // no truth is unknown
		s := x.text() + " where "
		both, code := m.plain(t, s+a.text+" or "+b.text)
		first, code1 := m.plain(t, s+a.text)
		second, code2 := m.plain(t, s+"not "+a.text+" and "+b.text)
		if code != api.OK || code1 != api.OK || code2 != api.OK {
			return
		}
		if sorted(both) != sorted(slices.Concat(first, second)) && len(first)+len(second) > 0 {
			t.Errorf("%s %s or %s: %s, want %s and %s", s, a.text, b.text, shown(both), shown(first), shown(second))
		}
		seen[len(first) > 0 && len(second) > 0]++
	})
	if seen[true] < 50 {
		t.Error(seen)
	}
}

// TestLawSources: P9.11, the order of sources changes only the order of rows.
func TestLawSources(t *testing.T) {
	seen := map[bool]int{}
	walk(t, 5000, 100, 10, func(m *maker) {
		x, p := m.from(nil, 0)
		x.where = x.where[:len(x.where)/2]
		x.list = []made{{text: everything(x.sources)}, m.expr(p, m.kind(), 2)}
		rows, code := m.plain(t, x.text())
		m.Shuffle(len(x.sources), func(i, j int) { x.sources[i], x.sources[j] = x.sources[j], x.sources[i] })
		other, codeOther := m.plain(t, x.text())
		if (code == api.OK) != (codeOther == api.OK) || sorted(rows) != sorted(other) {
			t.Errorf("%s: %s, error %d, else %s, error %d", x.text(), shown(other), codeOther, shown(rows), code)
		}
		seen[len(rows) > 1 && shown(rows) != shown(other)]++
	})
	if seen[true] < 50 {
		t.Error(seen)
	}
}

// TestLawGroups: P9.12, counts of groups together are the count of all.
func TestLawGroups(t *testing.T) {
	seen := map[bool]int{}
	walk(t, 6000, 100, 10, func(m *maker) {
		x, p := m.from(nil, 0)
		by, of := m.expr(p, m.kind(), 1), m.expr(p, m.kind(), 1)
		x.list = []made{{text: "count(*)"}, {text: "count(" + of.text + ")"}}
		all, code := m.plain(t, x.text())
		x.by = []made{by}
		groups, codeBy := m.plain(t, x.text())
		if code != api.OK || codeBy != api.OK {
			return
		}
		for i := range 2 {
			var l []api.Value
			for _, r := range groups {
				l = append(l, r[i])
			}
			if sum, _ := value.Aggregate("sum", l); sum.N != all[0][i].N {
				t.Errorf("%s: %v together, want %v", x.text(), sum, all)
			}
		}
		seen[len(groups) > 1]++
	})
	if seen[true] < 50 {
		t.Error(seen)
	}
}
