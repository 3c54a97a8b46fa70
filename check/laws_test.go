package check_test

import (
	"math/rand/v2"
	"regexp"
	"strconv"
	"strings"
	"testing"

	"justiciar/api"
	"justiciar/catalog"
	"justiciar/check"
	"justiciar/unit"
)

// worldOfLaws returns a catalog with what programs by chance name.
func worldOfLaws(t *testing.T) api.Catalog {
	return after(t, world(t), "u: create package w2 is yes bool; ints array of int; texts array of text; bools array of bool; end;")
}

// walk makes programs by chance.
func walk(seeds, each int, do func(m *maker)) {
	for seed := range seeds {
		m := &maker{Rand: rand.New(rand.NewPCG(uint64(seed), 10))}
		for range each {
			do(m)
		}
	}
}

// unmarked returns a program without its marks ^code.name. and the first fault that these say.
func unmarked(s string) (string, api.Fault) {
	mark := regexp.MustCompile(`\^([0-9]+)\.([a-z0-9_.+]*)\. `)
	var first api.Fault
	for {
		at := mark.FindStringSubmatchIndex(s)
		if at == nil {
			return s, first
		}
		if first.Code == api.OK {
			code, _ := strconv.Atoi(s[at[2]:at[3]])
			first = api.Fault{Code: api.Errno(code), Name: s[at[4]:at[5]], Line: 1, Col: at[0] + 1}
		}
		s = s[:at[0]] + s[at[1]:]
	}
}

// look returns the fault of a program, and its binds, as they are shown; false, if it is too long to be read.
func (x call) look(t *testing.T, s string) (api.Fault, string, bool) {
	t.Helper()
	if !strings.HasPrefix(s, "create") {
		b, f := unit.ParseBlock(s)
		if f.Code == api.OK {
			return check.Block(x.c, x.user, b), "", true
		}
		return f, "", readable(t, s, f)
	}
	d, f := unit.ParseDef(s)
	if !readable(t, s, f) {
		return f, "", false
	}
	c, code := catalog.Do(x.c, x.user, d)
	o, _ := catalog.Find(c, x.user, "me")
	if code != api.OK {
		t.Fatalf("%s: error %d", s, code)
	}
	f = check.Def(x.c, x.user, d)
	binds, code := check.Binds(c, x.user, "me", o.Kind, o.Unit[0])
	if (f.Code == api.OK) != (code == api.OK) {
		t.Errorf("%s: %v, of Binds error %d", s, f, code)
	}
	return f, shown(binds), true
}

// readable reports whether there is no fault of reading; one that is not because of a program's length must not be.
func readable(t *testing.T, s string, f api.Fault) bool {
	t.Helper()
	if f.Code != api.OK && f.Code != api.ErrLimit {
		t.Fatalf("%s: %v", s, f)
	}
	return f.Code == api.OK
}

// exchanged returns a program whose chosen variables are written with a closure.
func exchanged(s string, write func(name string) string) string {
	return regexp.MustCompile(`@[a-z]@`).ReplaceAllStringFunc(s, func(name string) string { return write(name[1:2]) })
}

func same(name string) string { return name }

// Programs by chance have no fault, and with faults planted the first of these: P10.8, as what stands behind a fault does not change it.
func TestLawFirst(t *testing.T) {
	x := call{worldOfLaws(t), "u"}
	right, wrong, several := 0, 0, 0
	walk(20, 60, func(m *maker) {
		m.plant = m.number(0, 3, 20)
		marked := exchanged(m.program(), same)
		s, want := unmarked(marked)
		f, _, ok := x.look(t, s)
		if !ok {
			return
		}
		if f != want {
			t.Errorf("%s: %v, want %v", s, f, want)
		}
		switch many := strings.Count(marked, "^"); {
		case many == 0:
			right++
		case many > 1:
			several++
		default:
			wrong++
		}
	})
	if right < 300 || wrong < 50 || several < 300 {
		t.Error(right, wrong, several)
	}
}

// P10.7: the variables of a block within a program are exchanged for others.
func TestLawInner(t *testing.T) {
	x := call{worldOfLaws(t), "u"}
	many := 0
	walk(20, 50, func(m *maker) {
		s := m.program()
		was := exchanged(s, same)
		is := exchanged(s, func(name string) string { return "other_" + name })
		f, binds, ok := x.look(t, was)
		g, others, okToo := x.look(t, is)
		if !ok || !okToo || was == is {
			return
		}
		many++
		if f != (api.Fault{}) || g != (api.Fault{}) {
			t.Errorf("%s: %v\n%s: %v", was, f, is, g)
		}
		if strings.ReplaceAll(others, "other_", "") != binds {
			t.Errorf("%s: binds %s\n%s: binds %s", was, binds, is, others)
		}
	})
	if many < 300 {
		t.Error(many)
	}
}

// P10.6: more objects, of which none has a name that a program names, do not matter.
func TestLawNames(t *testing.T) {
	few := call{worldOfLaws(t), "u"}
	more := call{after(t, few.c, "u: create user z;", "u: create table zq (x int, zzq text);", "w: create table zq (a int);", "u: create view zv as select x from t;", "u: create procedure zp is begin zq; end;",
		"u: create function zf return int is begin return 1; end;", "u: create package zk is a int; n int; end;", "z: create package pack2 is n int; end;", "u: create trigger zt before insert on t begin null; end;", "w: create sequence zs start 1 by 1 cache 1;"), "u"}
	right, wrong := 0, 0
	walk(20, 50, func(m *maker) {
		m.plant = m.number(0, 0, 20)
		s, want := unmarked(exchanged(m.program(), same))
		f, binds, ok := few.look(t, s)
		g, others, _ := more.look(t, s)
		if !ok {
			return
		}
		if f != want || g != want || binds != others {
			t.Errorf("%s: %v %s, then %v %s", s, f, binds, g, others)
		}
		if want.Code == api.OK {
			right++
		} else {
			wrong++
		}
	})
	if right < 300 || wrong < 100 {
		t.Error(right, wrong)
	}
}
