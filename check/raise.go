package check

import (
	"strings"

	"justiciar/api"
)

func faultOf(raised any) api.Fault {
	switch x := raised.(type) {
	case api.Fault:
		return x
	default: // nothing else is raised, but no function of the package must panic
		return api.Fault{Code: api.ErrArg}
	}
}

// want raises a fault, unless something is as it should be.
func want(ok bool, f api.Fault) {
	if !ok {
		panic(f)
	}
}

// atStmt returns a fault at a statement, which has the name that its Path, or else its Text says.
func atStmt(code api.Errno, s *api.Stmt) api.Fault {
	name := s.Text
	if len(s.Path) > 0 {
		name = strings.Join(s.Path, ".")
	}
	return api.Fault{Code: code, Name: name, Line: s.Line, Col: s.Col}
}

// wantDifferent raises a fault at the first part of a program that has the same name as one before it.
func wantDifferent(l []titled) {
	seen := map[string]bool{}
	for _, x := range l {
		want(!seen[x.name], x.fault(api.ErrTwice))
		seen[x.name] = true
	}
}

// titled is the name and the position of a part of a program.
type titled struct {
	name      string
	line, col int
}

func (x titled) fault(code api.Errno) api.Fault {
	return api.Fault{Code: code, Name: x.name, Line: x.line, Col: x.col}
}

// titles returns what a closure finds of each part of a list.
func titles[T any](l []T, titleOf func(x *T) titled) []titled {
	var all []titled
	for i := range l {
		all = append(all, titleOf(&l[i]))
	}
	return all
}

func titleOfDecl(d *api.Decl) titled { return titled{d.Name, d.Line, d.Col} }

func titleOfParam(m *api.Param) titled { return titled{m.Name, m.Line, m.Col} }

func titleOfSub(s *api.Sub) titled { return titled{s.Name, s.Line, s.Col} }
