package check_test

import (
	"fmt"
	"math/rand/v2"
	"slices"
	"strings"

	"justiciar/api"
)

// thing is what has a name in a program that is made.
type thing struct {
	name    string // which hides others
	written string // how it stands in the program
	sort    string // variable, array, record, cursor or exception
	kind    api.Kind
	fixed   bool // it cannot be assigned
}

// mode is where an expression stands.
type mode int

const (
	outside mode = iota // of queries and changes
	alone               // in a change, without columns
	over                // in a query or change over the table t
)

// maker makes programs by chance, the same ones in each run. They have no faults but those that it plants. What names mean is reckoned while it writes.
type maker struct {
	*rand.Rand
	scopes  [][]thing // the innermost one last
	row     bool      // there are :new and :old
	loop    bool
	handler bool
	chosen  bool // a block was chosen whose variables stand as @name@
	plant   int  // one of so many statements has a fault; 0: none has
}

func (m *maker) pick(l ...string) string { return l[m.IntN(len(l))] }

func (m *maker) chance(in int) bool { return m.IntN(in) == 0 }

func (m *maker) kind() api.Kind { return api.Kind(1 + m.IntN(3)) }

// of returns the string that is for a kind.
func of(k api.Kind, ofInt, ofText, ofBool string) string {
	return []string{"", ofInt, ofText, ofBool}[k]
}

// name returns a name that no object and no column has.
func (m *maker) name() string { return m.pick("a", "b", "c", "d", "h") }

// one returns one of the things that are not hidden and are as a closure wants; false, if there is none.
func (m *maker) one(wanted func(x thing) bool) (thing, bool) {
	var l []thing
	var hidden []string
	for _, scope := range slices.Backward(m.scopes) {
		for _, x := range scope {
			if !slices.Contains(hidden, x.name) && wanted(x) {
				l = append(l, x)
			}
		}
		for _, x := range scope {
			hidden = append(hidden, x.name)
		}
	}
	if len(l) == 0 {
		return thing{}, false
	}
	return l[m.IntN(len(l))], true
}

func (m *maker) sort(sort string, k api.Kind) (thing, bool) {
	return m.one(func(x thing) bool { return x.sort == sort && x.kind == k })
}

// within returns what a closure writes where there are more things, and keeps where it is.
func (m *maker) within(scope []thing, write func() string) string {
	kept := *m
	m.scopes = append(slices.Clone(m.scopes), scope)
	s := write()
	chosen := m.chosen
	*m = kept
	m.chosen = chosen
	return s
}

func (m *maker) constant(k api.Kind) string {
	if m.chance(8) {
		return "null"
	}
	return of(k, m.pick("0", "1", "7"), m.pick("''", "'x'", "'it''s'"), m.pick("true", "false"))
}

// value returns what is no operation.
func (m *maker) value(k api.Kind, depth int, at mode) string {
	if x, ok := m.sort("variable", k); ok && m.chance(2) {
		return x.written
	}
	if x, ok := m.sort("array", k); ok && m.chance(2) {
		return x.written + "(" + m.expr(api.VInt, depth-1, outside) + ")"
	}
	if x, ok := m.sort("record", api.VNull); ok && m.chance(3) {
		return x.written + "." + of(k, "n", "s", "t")
	}
	if at == over && m.chance(2) {
		return m.pick("", "t.") + of(k, "x", "y", "z")
	}
	if m.row && m.chance(3) {
		return m.pick(":new.", ":old.") + of(k, "x", "y", "z")
	}
	if m.chance(2) {
		return m.constant(k)
	}
	if at == outside && m.chance(2) {
		return m.asked(k, depth)
	}
	return of(k, m.pick("sqlcode", "pack.n", "u.pack.n"), m.pick("sqlname", "pack.str", "w.pack.n"), m.constant(k))
}

// asked returns what cannot stand in queries.
func (m *maker) asked(k api.Kind, depth int) string {
	if x, ok := m.sort("array", m.kind()); ok && k == api.VInt && m.chance(2) {
		return x.written + ".size"
	}
	if x, ok := m.sort("cursor", api.VNull); ok && k != api.VText && m.chance(2) {
		return x.written + of(k, "%rowcount", "", m.pick("%found", "%notfound", "%isopen"))
	}
	n, s := m.expr(api.VInt, depth-1, outside), m.expr(api.VText, depth-1, outside)
	return of(k, m.pick("seq.nextval", "u.seq.currval", "sql%rowcount", "f("+n+")", "u.f("+n+")"), m.pick("g()", "w.f("+s+")"), m.pick("sql%found", "pack.calc("+n+", "+s+")"))
}

// expr returns an expression of a kind, in brackets if it is an operation.
func (m *maker) expr(k api.Kind, depth int, at mode) string {
	if depth <= 0 || m.chance(3) {
		return m.value(k, depth, at)
	}
	some := func(k api.Kind) string { return m.expr(k, depth-1, at) }
	other := m.kind()
	switch m.IntN(4) {
	case 0:
		return "case when " + some(api.VBool) + " then " + some(k) + " else " + some(k) + " end"
	case 1:
		return "nvl(" + some(k) + ", " + some(k) + ")"
	}
	return of(k,
		m.pick("("+some(api.VInt)+" + "+some(api.VInt)+")", "length("+some(api.VText)+")", "(- "+some(api.VInt)+")"),
		m.pick("("+some(api.VText)+" || "+some(api.VText)+")", "to_text("+some(api.VInt)+")"),
		m.pick("("+some(other)+" = "+some(other)+")", "("+some(api.VBool)+" and "+some(api.VBool)+")", "("+some(other)+" is null)", "(not "+some(api.VBool)+")", "("+some(other)+" in ("+some(other)+", "+some(other)+"))"))
}

// selected returns a query of an integer, a string and a bool, with names for them, and what stands ahead of its from. None of them is just null, which would have no type.
func (m *maker) selected(into string) string {
	return "select nvl(" + m.expr(api.VInt, 2, over) + ", 1) as n, nvl(" + m.expr(api.VText, 2, over) + ", 'x') as s, nvl(" + m.expr(api.VBool, 2, over) + ", true) as t" + into +
		" from " + m.pick("t", "u.t") + " where " + m.expr(api.VBool, 2, over)
}

func (m *maker) change() string {
	switch m.IntN(4) {
	case 0:
		return "insert into t values (" + m.expr(api.VInt, 2, alone) + ", " + m.expr(api.VText, 2, alone) + ", null)"
	case 1:
		return "insert into t " + m.selected("")
	case 2:
		return "update t set y = " + m.expr(api.VText, 2, over) + ", x = " + m.expr(api.VInt, 2, over) + " where " + m.expr(api.VBool, 2, over)
	}
	return "delete from t where " + m.expr(api.VBool, 2, over)
}

// target returns what a value of a kind can go to.
func (m *maker) target(k api.Kind) string {
	if x, ok := m.one(func(x thing) bool { return x.sort == "variable" && x.kind == k && !x.fixed }); ok && m.chance(2) {
		return x.written
	}
	if x, ok := m.one(func(x thing) bool { return x.sort == "array" && x.kind == k && !x.fixed }); ok {
		return x.written + "(" + m.expr(api.VInt, 1, outside) + ")"
	}
	return of(k, "pack.n", "u.pack.str", "w2.yes")
}

// array returns an array to which values of a kind can go.
func (m *maker) array(k api.Kind) string {
	if x, ok := m.one(func(x thing) bool { return x.sort == "array" && x.kind == k && !x.fixed }); ok {
		return x.written
	}
	return of(k, "w2.ints", "w2.texts", "w2.bools")
}

func (m *maker) targets(target func(k api.Kind) string) string {
	return target(api.VInt) + ", " + target(api.VText) + ", " + target(api.VBool)
}

// into returns targets for what a query or a cursor has.
func (m *maker) into() string {
	if m.chance(2) {
		return " bulk collect into " + m.targets(m.array)
	}
	return " into " + m.targets(m.target)
}

// wrong returns a statement that has a fault wherever it stands, behind a mark: its code, and its name.
func (m *maker) wrong() string {
	return m.pick("^13.zzz. zzz := 1;", "^13.zzz. zzz;", "^15.t. t;", "^15.f. f(1);", "^17.w.run. w.run(zzz, 1);", "put(1 ^16.+. + 'x');", "put(^15.count. count(*));", "put(^13.zzz.x. zzz.x);", "pack.n := ^16.. 'x';", "if ^16.. 1 then zzz; end if;",
		"^13.zzz. raise zzz;", "^13.zzz. delete from zzz;", "delete from t where ^13.zzz. zzz;", "^13.zzz. open zzz;", "select ^13.zzz. zzz into zz2 from t;", "^17.. select x into pack.n, pack.n from t;", "select x into ^16.pack.str. pack.str from t;",
		"declare zz1 int; ^14.zz1. zz1 text; begin zz2; end;", "declare zz1 int := ^16.. 'x'; begin zz2; end;", "declare cursor zz1 is select ^13.zz2. zz2 from t; begin zz2; end;", "^17.put. put(1, zzz);", "for zzz in ^16.. 'x' .. 2 loop zz1; end loop;",
		"begin null; exception ^13.zzz. when zzz then zz1; end;", "begin null; exception ^15.others. when others or zzz then zz1; end;", "for zz1 in (select x from ^13.zzz. zzz) loop zz2; end loop;", "forall zz1 in 1 .. ^16.. true delete from zzz;")
}

func (m *maker) stmts(depth int) string {
	var l []string
	for range 1 + m.IntN(3) {
		if m.plant > 0 && m.chance(m.plant) {
			l = append(l, m.wrong())
		}
		l = append(l, m.stmt(depth))
	}
	return strings.Join(l, " ")
}

func (m *maker) stmt(depth int) string {
	if depth > 0 && m.chance(2) {
		return m.compound(depth - 1)
	}
	k := m.kind()
	cursor, isCursor := m.sort("cursor", api.VNull)
	exception, isException := m.sort("exception", api.VNull)
	switch m.IntN(9) {
	case 0:
		return m.change() + ";"
	case 1:
		return "forall a in " + m.expr(api.VInt, 1, outside) + " .. 2 " + m.within([]thing{{"a", "a", "variable", api.VInt, true}}, m.change) + ";"
	case 2:
		return m.selected(m.into()) + ";"
	case 3:
		return m.pick("put("+m.expr(k, 3, outside)+");", "run;", "w.run("+m.expr(api.VInt, 2, outside)+");", "three("+m.expr(api.VInt, 2, outside)+", "+m.target(api.VText)+", "+m.target(api.VBool)+");")
	case 4:
		if isCursor {
			return "open " + cursor.written + "; fetch " + cursor.written + m.into() + "; close " + cursor.written + ";"
		}
	case 5:
		if isException && m.chance(2) {
			return "raise " + exception.written + ";"
		}
		return "if true then raise no_room; end if;"
	case 6:
		if m.loop {
			return "exit when " + m.expr(api.VBool, 2, outside) + ";"
		}
		if m.handler {
			return "raise;"
		}
	}
	return m.target(k) + " := " + m.expr(k, 3, outside) + ";"
}

// inLoop returns statements within a loop.
func (m *maker) inLoop(depth int, scope ...thing) string {
	return m.within(scope, func() string {
		m.loop = true
		return " loop " + m.stmts(depth) + " end loop;"
	})
}

func (m *maker) compound(depth int) string {
	name := m.name()
	cursor, isCursor := m.sort("cursor", api.VNull)
	switch m.IntN(7) {
	case 0:
		return "if " + m.expr(api.VBool, 2, outside) + " then " + m.stmts(depth) + " elsif " + m.expr(api.VBool, 2, outside) + " then " + m.stmts(depth) + " else " + m.stmts(depth) + " end if;"
	case 1:
		return "while " + m.expr(api.VBool, 2, outside) + m.inLoop(depth)
	case 2:
		return "for " + name + " in " + m.pick("", "reverse ") + "1 .. " + m.expr(api.VInt, 2, outside) + m.inLoop(depth, thing{name, name, "variable", api.VInt, true})
	case 3:
		return "for " + name + " in (" + m.selected("") + ")" + m.inLoop(depth, thing{name, name, "record", api.VNull, true})
	case 4:
		if isCursor {
			return "for " + name + " in " + cursor.written + m.inLoop(depth, thing{name, name, "record", api.VNull, true})
		}
	}
	return m.block(depth)
}

// declared returns declarations of different names; what they declare comes into the innermost scope one by one.
func (m *maker) declared(cursors bool) string {
	own := !m.chosen && cursors && m.chance(3)
	m.chosen = m.chosen || own
	var s string
	inner := len(m.scopes) - 1
	var names []string
	for range m.IntN(4) {
		name := m.name()
		if slices.Contains(names, name) {
			continue
		}
		names = append(names, name)
		x := thing{name, name, m.pick("variable", "variable", "array", "exception"), m.kind(), false}
		if cursors && m.chance(4) {
			x.sort = "cursor"
		}
		if own && (x.sort == "variable" || x.sort == "array") {
			x.written = "@" + name + "@"
		}
		switch x.sort {
		case "variable":
			s += x.written + " " + of(x.kind, "int", "text", "bool") + m.pick("", " := "+m.expr(x.kind, 2, outside)) + "; "
		case "array":
			s += x.written + " array of " + of(x.kind, "int", "text", "bool") + "; "
		case "exception":
			x.kind = api.VNull
			s += x.written + " exception; "
		case "cursor":
			x.kind = api.VNull
			s += "cursor " + x.written + " is " + m.selected("") + "; "
		}
		m.scopes[inner] = append(m.scopes[inner], x)
	}
	return s
}

func (m *maker) block(depth int) string {
	return m.within(nil, func() string { return "declare " + m.declared(true) + m.begun(depth) })
}

// begun returns what follows the declarations of a block.
func (m *maker) begun(depth int) string {
	s := "begin " + m.stmts(depth)
	if m.chance(3) {
		s += " exception "
		if x, ok := m.sort("exception", api.VNull); ok && m.chance(2) {
			s += "when " + x.written + " or zero_divide then " + m.handled(depth) + " "
		}
		s += "when others then " + m.handled(depth)
	}
	return s + " end;"
}

func (m *maker) handled(depth int) string {
	return m.within(nil, func() string {
		m.handler = true
		return m.stmts(depth)
	})
}

// params returns parameters, and what they are.
func (m *maker) params() (string, []thing) {
	var s []string
	var l []thing
	for _, name := range []string{"a", "b", "c", "d"}[:m.IntN(5)] {
		x := thing{name, name, m.pick("variable", "variable", "array"), m.kind(), false}
		way := m.pick("", "in ", "out ", "in out ")
		x.fixed = way == "" || way == "in "
		array := ""
		if x.sort == "array" {
			array = "array of "
		}
		l = append(l, x)
		s = append(s, name+" "+way+array+of(x.kind, "int", "text", "bool"))
	}
	if len(s) == 0 {
		return "", nil
	}
	return " (" + strings.Join(s, ", ") + ")", l
}

// sub returns a procedure or a function of a name.
func (m *maker) sub(name string) string {
	params, things := m.params()
	head, end := "procedure "+name+params, ""
	if m.chance(2) {
		head, end = "function "+name+params+" return int", "return 1; "
	}
	return m.within(things, func() string {
		return head + " is " + m.within(nil, func() string { return m.declared(true) + "begin " + end + strings.TrimPrefix(m.begun(2), "begin ") })
	})
}

// program returns a program that is named me, or a block.
func (m *maker) program() string {
	m.scopes, m.chosen, m.row = nil, false, false
	switch m.IntN(4) {
	case 0:
		return "create " + m.sub("me")
	case 1:
		return m.within(nil, func() string {
			s := "create package me is " + m.declared(false)
			for i := range 1 + m.IntN(3) {
				s += m.sub(fmt.Sprintf("sub%d", i)) + " "
			}
			return s + "end;"
		})
	case 2:
		m.row = m.chance(2)
		if m.row {
			return "create trigger me before update on t for each row " + m.block(2)
		}
		return "create trigger me after delete or insert on t " + m.block(2)
	}
	return m.block(2)
}

// number returns one of some numbers.
func (m *maker) number(l ...int) int { return l[m.IntN(len(l))] }
