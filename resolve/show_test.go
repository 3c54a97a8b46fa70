package resolve_test

import (
	"fmt"
	"strings"

	"justiciar/api"
	"justiciar/value"
)

// A tree is shown with all that it has but positions: a column as its path @ A.B.C, a bind as its path $ A.

func shownQuery(q api.Query) string {
	s := "select"
	if q.Distinct {
		s += " distinct"
	}
	if q.Star {
		s += " *"
	}
	var list, from, order []string
	for _, x := range q.List {
		list = append(list, shownAs(shownExpr(x.Expr), x.As))
	}
	for _, x := range q.From {
		one := strings.Join(x.Path, ".")
		for _, e := range x.AsOf {
			one += " as of " + shownExpr(e)
		}
		from = append(from, shownAs(one, x.As))
	}
	for _, x := range q.Order {
		one := shownExpr(x.Expr)
		if x.Desc {
			one += " desc"
		}
		order = append(order, one)
	}
	s += clause(" ", list) + clause(" from ", from) + clause(" where ", shownExprs(q.Where)) + clause(" group by ", shownExprs(q.Group)) + clause(" having ", shownExprs(q.Having)) + clause(" order by ", order)
	if q.Lock {
		s += " for update"
	}
	return s
}

// shownAs puts a name, if there is one, behind what has it.
func shownAs(s, name string) string {
	if name == "" {
		return s
	}
	return s + " " + name
}

func clause(head string, l []string) string {
	if len(l) == 0 {
		return ""
	}
	return head + strings.Join(l, ", ")
}

func shownExprs(l []api.Expr) []string {
	var out []string
	for _, e := range l {
		out = append(out, shownExpr(e))
	}
	return out
}

func shownExpr(e api.Expr) string {
	kids := strings.Join(shownExprs(e.Kids), ", ")
	not := ""
	if e.Not {
		not = "not "
	}
	path := e.Text + strings.Join(e.Path, ".")
	switch e.Op {
	case api.EConst:
		s, _ := value.Text(e.Val)
		return s
	case api.EName:
		return path
	case api.ECol:
		return fmt.Sprintf("%s@%d.%d.%d", path, e.A, e.B, e.C)
	case api.EBind:
		return fmt.Sprintf("%s$%d", path, e.A)
	case api.EUnary, api.EBinary:
		return fmt.Sprintf("%s(%s)", e.Text, kids)
	case api.ENull:
		return fmt.Sprintf("%snull(%s)", not, kids)
	case api.EIn:
		return fmt.Sprintf("%sin(%s)", not, kids)
	case api.EBetween:
		return fmt.Sprintf("%sbetween(%s)", not, kids)
	case api.ECase:
		return fmt.Sprintf("case(%s)", kids)
	case api.ECall:
		return fmt.Sprintf("%s(%s)", path, kids)
	case api.EStar:
		return "count(*)"
	case api.EQuery:
		return "(" + shownQuery(e.Query[0]) + ")"
	case api.EExists:
		return "exists (" + shownQuery(e.Query[0]) + ")"
	}
	return fmt.Sprintf("?%d %s", e.Op, path)
}

func shownChange(x api.Change) string {
	s := fmt.Sprintf("%s %s", map[api.ChangeOp]string{api.CInsert: "insert", api.CUpdate: "update", api.CDelete: "delete"}[x.Op], strings.Join(x.Path, "."))
	s += clause(" cols ", x.Cols) + clause(" vals ", shownExprs(x.Vals))
	for _, q := range x.Query {
		s += " " + shownQuery(q)
	}
	return s + clause(" where ", shownExprs(x.Where))
}

func shownNames(l []api.Named) string {
	var out []string
	for _, n := range l {
		out = append(out, n.Name+" "+[]string{"null", "int", "text", "bool"}[n.Type])
	}
	return strings.Join(out, ", ")
}
