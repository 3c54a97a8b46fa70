package answer

import (
	"slices"

	"justiciar/api"
	"justiciar/image"
	"justiciar/list"
	"justiciar/object"
	"justiciar/where"
)

func keyOf(x *api.Source) [2]string { return object.KeyOf("", x.Path) }

// kept returns the combinations of rows of a query's sources for which its Where is true.
func (k *calculation) kept(q *api.Query, s *scope, ways []api.Way) []combination {
	sources := k.sources(q, s.read)
	k.count(sources)
	for i, w := range ways {
		sources[i] = k.given(q, i, w, sources[i])
	}
	holds := k.condition(q.Where)
	var l []combination
	combine(sources, func(rows combination) {
		if holds(s.with(rows)) {
			l = append(l, slices.Clone(rows))
		}
	})
	return l
}

// sources returns the rows of all sources of a query that reads an image: which one each of them reads is known ahead of the rows.
func (k *calculation) sources(q *api.Query, read *api.Image) [][]api.Held {
	var images []*api.Image
	for i := range q.From {
		images = append(images, k.imageOf(&q.From[i], read))
	}
	var l [][]api.Held
	for i, m := range images {
		l = append(l, k.rows(keyOf(&q.From[i]), m))
	}
	return l
}

// imageOf returns the image that a source of a query reads. A time names no column, and has no query in it, so it needs no scope.
func (k *calculation) imageOf(x *api.Source, read *api.Image) *api.Image {
	if len(x.AsOf) == 0 {
		return read
	}
	return k.asOf(k.expr(&x.AsOf[0], nil))
}

// rows returns the rows of a table or a view in an image.
func (k *calculation) rows(key [2]string, m *api.Image) []api.Held {
	o := object.Find(k.c, key)
	if o.Kind == api.OTable {
		return image.Rows(m, key)
	}
	var l []api.Held
	for _, r := range k.query(k.view(o), &scope{read: m}, nil) {
		l = append(l, api.Held{Row: r.row})
	}
	return l
}

// given returns those rows of a source that a way gives: by an index those for which all simple parts of its columns are true.
func (k *calculation) given(q *api.Query, source int, w api.Way, rows []api.Held) []api.Held {
	if w == (api.Way{}) {
		return rows
	}
	cols := object.Find(k.c, keyOf(&q.From[source])).Table[0].Cols
	by := object.Find(k.c, [2]string{w.Owner, w.Name}).Index[0].Cols[:w.Cols]
	simple, _ := where.Split(q.Where, k.binds)
	simple = slices.DeleteFunc(simple, func(e where.Equal) bool { return e.Source != source || !slices.Contains(by, cols[e.Col].Name) })
	return slices.DeleteFunc(slices.Clone(rows), func(h api.Held) bool {
		return !list.Each(simple, func(e *where.Equal) bool { return e.Holds(h.Row) })
	})
}

// condition returns what tells of a scope whether a Where is true: it asks the simple parts first, then the others, up to the first that is not true.
func (k *calculation) condition(l []api.Expr) func(s *scope) bool {
	simple, others := where.Split(l, k.binds)
	return func(s *scope) bool {
		return list.Each(simple, func(e *where.Equal) bool { return e.Holds(s.rows[e.Source].Row) }) &&
			list.Each(others, func(e **api.Expr) bool { return k.isTrue(*e, s) })
	}
}

// combine shows a closure all combinations of a row of each source. What is shown changes with the next one.
func combine(sources [][]api.Held, show func(rows combination)) {
	rows := make(combination, len(sources))
	var from func(source int)
	from = func(source int) {
		if source == len(sources) {
			show(rows)
			return
		}
		for _, h := range sources[source] {
			rows[source] = h
			from(source + 1)
		}
	}
	from(0)
}
