package answer_test

import (
	"maps"
	"slices"

	"justiciar/api"
	"justiciar/value"
)

// reckon reckons the rows of a query.
func (m *maker) reckon(x *parts, around env) []api.Row {
	kept := m.kept(x, around)
	envs := kept
	if x.groups {
		envs = grouped(x, kept, around)
	}
	var rows, keys []api.Row
	for _, v := range envs {
		if len(x.having) > 0 && x.having[0].val(v) != truth(true) {
			continue
		}
		row, key := values(x.list, v), values(x.order, v)
		same := func(one api.Row) bool { return slices.Equal(one, row) }
		if i := slices.IndexFunc(rows, same); i < 0 || !x.distinct {
			rows, keys = append(rows, row), append(keys, key)
		}
	}
	if len(rows) > 500 {
		panic(api.ErrLimit)
	}
	return x.ordered(rows, keys)
}

func values(l []made, v env) api.Row {
	var r api.Row
	for _, e := range l {
		r = append(r, e.val(v))
	}
	return r
}

// kept reckons which combinations of rows a query keeps.
func (m *maker) kept(x *parts, around env) []env {
	many := 1
	var lists [][]api.Row
	var images []int
	for _, s := range x.sources {
		images = append(images, s.image(around.image))
	}
	for i, s := range x.sources {
		l := m.rowsOf(s.table, images[i])
		lists = append(lists, l)
		many *= len(l)
	}
	m.count(many)
	var kept []env
	for n := range many {
		v := env{maps.Clone(around.rows), around.image, nil}
		rest := n
		for i := len(lists) - 1; i >= 0; i-- {
			v.rows[x.sources[i].name] = lists[i][rest%len(lists[i])]
			rest /= len(lists[i])
		}
		if x.keeps(v) {
			kept = append(kept, v)
		}
	}
	return kept
}

// keeps reckons whether Where is true: the simple parts come first.
func (x *parts) keeps(v env) bool {
	for _, simple := range []bool{true, false} {
		for _, e := range x.where {
			if e.equal == simple && e.val(v) != truth(true) {
				return false
			}
		}
	}
	return true
}

// grouped reckons the groups of a query.
func grouped(x *parts, kept []env, around env) []env {
	if len(x.by) == 0 {
		v := env{around.rows, around.image, kept}
		if len(kept) > 0 {
			v.rows = kept[0].rows
		}
		return []env{v}
	}
	var keys []api.Row
	var groups []env
	for _, v := range kept {
		key := values(x.by, v)
		i := slices.IndexFunc(keys, func(one api.Row) bool { return slices.Equal(one, key) })
		if i < 0 {
			i = len(groups)
			keys, groups = append(keys, key), append(groups, env{v.rows, v.image, nil})
		}
		groups[i].group = append(groups[i].group, v)
	}
	return groups
}

// ordered puts each row behind all those before it that it does not come ahead of.
func (x *parts) ordered(rows, keys []api.Row) []api.Row {
	var out, outKeys []api.Row
	for n, row := range rows {
		i := len(out)
		for i > 0 && x.ahead(keys[n], outKeys[i-1]) {
			i--
		}
		out, outKeys = slices.Insert(out, i, row), slices.Insert(outKeys, i, keys[n])
	}
	return out
}

func (x *parts) ahead(a, b api.Row) bool {
	for i, desc := range x.desc {
		first, second := a[i], b[i]
		if desc {
			first, second = second, first
		}
		switch {
		case first == second:
			continue
		case first.Kind == api.VNull || second.Kind == api.VNull:
			return second.Kind == api.VNull
		}
		return value.True(wanted(value.Binary("<", first, second)))
	}
	return false
}

// answered reckons the rows of a query from outside, or its error.
func (m *maker) answered(q reckoned) (rows []api.Row, code api.Errno) {
	defer func() {
		if raised := recover(); raised != nil {
			rows, code = nil, raised.(api.Errno)
		}
	}()
	m.combined = 0
	return q.rows(env{map[string]api.Row{}, len(m.l) - 1, nil}), api.OK
}

// expr returns an expression of a kind.
func (m *maker) expr(p place, k api.Kind, deep int) made {
	if p.grouped && m.chance(3) {
		l := slices.DeleteFunc(slices.Clone(p.by), func(e made) bool { return e.kind != k })
		if len(l) > 0 {
			return asBefore(l[m.IntN(len(l))])
		}
	}
	if p.grouped && m.chance(2) {
		return m.aggregate(p, k)
	}
	if deep == 0 || m.chance(4) {
		return m.leaf(p, k)
	}
	if p.deep < 3 && m.chance(12) {
		return m.inner(p, k)
	}
	if m.chance(6) {
		return m.choice(p, k, deep-1)
	}
	switch k {
	case api.VInt:
		return m.integer(p, deep-1)
	case api.VText:
		return m.text(p, deep-1)
	}
	return m.bool(p, deep-1)
}

// asBefore returns an expression that stands again as a part: it is no column by itself, as its query is grouped.
func asBefore(e made) made {
	return made{text: e.text, kind: e.kind, val: e.val}
}

func (m *maker) leaf(p place, k api.Kind) made {
	cols := slices.Clone(p.around)
	if !p.grouped {
		cols = append(append(cols, p.own...), p.own...)
	}
	cols = slices.DeleteFunc(cols, func(c column) bool { return c.kind != k })
	if len(cols) > 0 && !m.chance(4) {
		c := cols[m.IntN(len(cols))]
		return made{text: c.source + "." + c.name, kind: k, col: c.source, val: func(v env) api.Value { return v.rows[c.source][c.at] }}
	}
	if !m.single && m.chance(4) {
		b := m.binds[k-1]
		return made{text: b.Path[0], kind: k, plain: true, val: func(env) api.Value { return b.Val }}
	}
	x := m.value(k)
	s, _ := value.Text(x)
	return made{text: s, kind: k, plain: true, val: func(env) api.Value { return x }}
}

// aggregate returns an aggregate of a kind, or, if there is none of bools, a comparison with one.
func (m *maker) aggregate(p place, k api.Kind) made {
	one := p
	one.grouped, one.by = false, nil
	if k == api.VInt && m.chance(4) {
		return made{text: "count(*)", kind: k, val: func(v env) api.Value { return number(len(v.group)) }}
	}
	name, of := m.pick("min", "max"), k
	if k == api.VInt {
		name = m.pick("min", "max", "sum", "count")
	}
	if name == "count" {
		of = m.kind()
	}
	kid := m.expr(one, of, 1)
	return made{text: name + "(" + kid.text + ")", kind: k, val: func(v env) api.Value {
		var l []api.Value
		for _, row := range v.group {
			l = append(l, kid.val(row))
		}
		return wanted(value.Aggregate(name, l))
	}}
}

// visible returns the columns that a query within an expression may name.
func (p place) visible() []column {
	if p.grouped {
		return p.around
	}
	return slices.Concat(p.around, p.own)
}

// inner returns a query as an expression.
func (m *maker) inner(p place, k api.Kind) made {
	if k == api.VBool && m.chance(2) {
		q := m.query(p.visible(), p.deep+1)
		if m.chance(2) {
			return made{text: "(not exists (" + q.text + "))", kind: k, val: func(v env) api.Value { return truth(len(q.rows(v)) == 0) }}
		}
		return made{text: "exists (" + q.text + ")", kind: k, val: func(v env) api.Value { return truth(len(q.rows(v)) > 0) }}
	}
	q := m.query(p.visible(), p.deep+1, k)
	return made{text: "(" + q.text + ")", kind: k, val: func(v env) api.Value {
		rows := q.rows(v)
		if len(rows) > 1 {
			panic(api.ErrMany)
		}
		return append(slices.Concat(rows...), api.Value{})[0]
	}}
}

func (m *maker) choice(p place, k api.Kind, deep int) made {
	a, b, c, d := m.expr(p, api.VBool, deep), m.expr(p, k, deep), m.expr(p, api.VBool, deep), m.expr(p, k, deep)
	other, otherwise := "", made{val: func(env) api.Value { return api.Value{} }}
	if m.chance(2) {
		otherwise = m.expr(p, k, deep)
		other = " else " + otherwise.text
	}
	return made{text: "case when " + a.text + " then " + b.text + " when " + c.text + " then " + d.text + other + " end", kind: k, val: func(v env) api.Value {
		if a.val(v) == truth(true) {
			return b.val(v)
		}
		if c.val(v) == truth(true) {
			return d.val(v)
		}
		return otherwise.val(v)
	}}
}

func (m *maker) integer(p place, deep int) made {
	a := m.expr(p, api.VInt, deep)
	switch m.IntN(8) {
	case 0:
		return made{text: "(- " + a.text + ")", kind: api.VInt, val: func(v env) api.Value { return wanted(value.Unary("-", a.val(v))) }}
	case 1:
		s := m.expr(p, api.VText, deep)
		f := m.pick("length", "to_int")
		return made{text: f + "(" + s.text + ")", kind: api.VInt, val: func(v env) api.Value { return wanted(value.Call(f, []api.Value{s.val(v)})) }}
	case 2:
		b := m.expr(p, api.VInt, deep)
		f := m.pick("nvl", "nullif", "least", "greatest")
		return made{text: f + "(" + a.text + ", " + b.text + ")", kind: api.VInt, val: func(v env) api.Value {
			l := []api.Value{a.val(v)}
			l = append(l, b.val(v))
			return wanted(value.Call(f, l))
		}}
	}
	return m.binary(p, api.VInt, api.VInt, deep, m.pick("+", "+", "-", "*", "/", "mod"))
}

func (m *maker) text(p place, deep int) made {
	if m.chance(3) {
		a := m.expr(p, api.VInt, deep)
		return made{text: "to_text(" + a.text + ")", kind: api.VText, val: func(v env) api.Value { return wanted(value.Call("to_text", []api.Value{a.val(v)})) }}
	}
	return m.binary(p, api.VText, api.VText, deep, "||")
}

// binary returns an operation between two of a kind.
func (m *maker) binary(p place, k, of api.Kind, deep int, op string) made {
	a, b := m.expr(p, of, deep), m.expr(p, of, deep)
	isOwn := func(e made) bool {
		return slices.ContainsFunc(p.own, func(c column) bool { return e.col == c.source })
	}
	equal := op == "=" && (isOwn(a) && b.plain || a.plain && isOwn(b))
	return made{text: "(" + a.text + " " + op + " " + b.text + ")", kind: k, joins: op == "and", equal: equal, val: func(v env) api.Value {
		first := a.val(v)
		if op == "and" && first == truth(false) || op == "or" && first == truth(true) {
			return first
		}
		return wanted(value.Binary(op, first, b.val(v)))
	}}
}

func (m *maker) bool(p place, deep int) made {
	k := m.kind()
	switch m.IntN(8) {
	case 0:
		a := m.expr(p, api.VBool, deep)
		return made{text: "(not " + bracketed(a) + ")", kind: api.VBool, val: func(v env) api.Value { return wanted(value.Unary("not", a.val(v))) }}
	case 1:
		a := m.expr(p, k, deep)
		not := m.chance(2)
		return made{text: "(" + bracketed(a) + map[bool]string{false: " is null)", true: " is not null)"}[not], kind: api.VBool, val: func(v env) api.Value { return truth((a.val(v).Kind == api.VNull) != not) }}
	case 2:
		return m.in(p, k, deep)
	case 3:
		return m.between(p, k, deep)
	case 4:
		return m.binary(p, api.VBool, api.VText, deep, "like")
	case 5:
		return m.binary(p, api.VBool, api.VBool, deep, m.pick("and", "or"))
	}
	return m.binary(p, api.VBool, k, deep, m.pick("=", "=", "<>", "<", ">="))
}

func bracketed(e made) string { return "(" + e.text + ")" }

func (m *maker) in(p place, k api.Kind, deep int) made {
	a, not := m.expr(p, k, deep), m.chance(3)
	var l []made
	for range 1 + m.IntN(3) {
		l = append(l, m.expr(p, k, deep))
	}
	s := "(" + bracketed(a) + map[bool]string{true: " not"}[not] + " in ("
	for i, e := range l {
		s += map[bool]string{true: ", "}[i > 0] + e.text
	}
	return made{text: s + "))", kind: api.VBool, val: func(v env) api.Value {
		first, unknown := a.val(v), false
		for _, e := range l {
			one := wanted(value.Binary("=", first, e.val(v)))
			if one == truth(true) {
				return truth(!not)
			}
			unknown = unknown || one.Kind == api.VNull
		}
		if unknown {
			return api.Value{}
		}
		return truth(not)
	}}
}

func (m *maker) between(p place, k api.Kind, deep int) made {
	a, b, c, not := m.expr(p, k, deep), m.expr(p, k, deep), m.expr(p, k, deep), m.chance(3)
	return made{text: "(" + bracketed(a) + map[bool]string{true: " not"}[not] + " between " + bracketed(b) + " and " + bracketed(c) + ")", kind: api.VBool, val: func(v env) api.Value {
		x := a.val(v)
		low := b.val(v)
		high := c.val(v)
		r := wanted(value.Binary("and", wanted(value.Binary(">=", x, low)), wanted(value.Binary("<=", x, high))))
		if not {
			r = wanted(value.Unary("not", r))
		}
		return r
	}}
}

// part returns a part of Where.
func (m *maker) part(p place) made {
	if m.chance(3) {
		return m.equal(p.own[m.IntN(len(p.own))])
	}
	for {
		if e := m.expr(p, api.VBool, 2); !e.joins {
			return e
		}
	}
}

// equal returns a simple part of a column.
func (m *maker) equal(c column) made {
	v := m.value(c.kind)
	s, _ := value.Text(v)
	name := c.source + "." + c.name
	return made{text: m.pick(name+" = "+s, s+" = "+name), kind: api.VBool, equal: true, val: func(at env) api.Value {
		return wanted(value.Binary("=", at.rows[c.source][c.at], v))
	}}
}
