package choose

import (
	"slices"

	"justiciar/api"
	"justiciar/image"
	"justiciar/list"
	"justiciar/object"
	"justiciar/resolve"
	"justiciar/where"
)

// indexCost is what it costs to go by an index, beside the rows that it gives.
const indexCost = 3

// source is one of a query: the owner and name of its table or view, and all ways to its rows, the one through all of them first.
type source struct {
	key  [2]string
	ways []way
}

// way is a way, and what is true of the rows that it gives.
type way struct {
	api.Way
	gives []where.Equal
}

// sourcesOf returns the sources of a query.
func sourcesOf(c *api.Catalog, user string, binds []api.Bind, q api.Query) ([]source, api.Errno) {
	q, _, f := resolve.Query(*c, user, binds, q)
	if f.Code != api.OK {
		return nil, f.Code
	}
	simple, _ := where.Split(q.Where, binds)
	var l []source
	for i := range q.From {
		own := slices.DeleteFunc(slices.Clone(simple), func(e where.Equal) bool { return e.Source != i })
		l = append(l, sourceOf(c, &q.From[i], own))
	}
	return l, api.OK
}

// sourcesAt returns the sources of a query, if an image is valid. ErrArg may mean that the catalog is not: then the image cannot be held against it.
func sourcesAt(c *api.Catalog, user string, binds []api.Bind, q api.Query, m *api.Image) ([]source, api.Errno) {
	l, code := sourcesOf(c, user, binds, q)
	if code != api.ErrArg && !image.Valid(c, m) {
		return nil, api.ErrArg
	}
	return l, code
}

// sourceOf returns a source of which Where has these simple parts.
func sourceOf(c *api.Catalog, x *api.Source, simple []where.Equal) source {
	s := source{key: object.KeyOf("", x.Path), ways: []way{{}}}
	table := object.Find(c, s.key)
	if table.Kind != api.OTable || len(x.AsOf) > 0 {
		return s
	}
	for i := range c.Objects {
		o := &c.Objects[i]
		if o.Kind == api.OIndex && object.KeyOf("", o.Index[0].On) == s.key {
			s.ways = append(s.ways, waysBy(o, &table.Table[0], simple)...)
		}
	}
	return s
}

// waysBy returns the ways by an index: by its first columns, as far as each of them has a simple part, of which the first one counts.
func waysBy(o *api.Object, table *api.Table, simple []where.Equal) []way {
	var l []way
	var gives []where.Equal
	for _, name := range o.Index[0].Cols {
		i := slices.IndexFunc(simple, func(e where.Equal) bool { return table.Cols[e.Col].Name == name })
		if i < 0 {
			break
		}
		gives = append(gives, simple[i])
		l = append(l, way{api.Way{Owner: o.Owner, Name: o.Name, Cols: len(gives)}, slices.Clone(gives)})
	}
	return l
}

// find returns the index of a way; -1, if it is not one of the source's.
func (s source) find(w api.Way) int {
	return slices.IndexFunc(s.ways, func(one way) bool { return one.Way == w })
}

// rows returns the rows that an image has of the source.
func (s source) rows(m *api.Image) []api.Held { return image.Rows(m, s.key) }

// best returns the way with the least cost.
func (s source) best(m *api.Image) api.Way {
	rows := s.rows(m)
	best, least := s.ways[0], s.ways[0].cost(rows)
	for _, w := range s.ways[1:] {
		n := w.cost(rows)
		if n < least || n == least && 0 < best.Cols && best.Cols < w.Cols {
			best, least = w, n
		}
	}
	return best.Way
}

// cost returns what a way costs if these are all rows.
func (w way) cost(rows []api.Held) int {
	if w.Cols == 0 {
		return len(rows)
	}
	n := indexCost
	for _, h := range rows {
		if list.Each(w.gives, func(e *where.Equal) bool { return e.Holds(h.Row) }) {
			n++
		}
	}
	return n
}
