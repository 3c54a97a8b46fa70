package catalog

import (
	"slices"

	"justiciar/api"
	"justiciar/grammar"
	"justiciar/object"
	"justiciar/part"
)

// set is objects, by their owners and names.
type set map[[2]string]bool

// links say to which objects each object leads.
type links struct {
	all [][2]string // the objects, rising
	to  map[[2]string][][2]string
}

// linksOf returns links from each object of a catalog to those that it names: none leads to itself.
func linksOf(c *api.Catalog) links {
	l := links{to: map[[2]string][][2]string{}}
	for i := range c.Objects {
		key := object.Key(&c.Objects[i])
		l.all = append(l.all, key)
		l.to[key] = namesOf(c, &c.Objects[i])
	}
	return l
}

// namesOf returns the other objects of a catalog that one of them names, rising.
func namesOf(c *api.Catalog, o *api.Object) [][2]string {
	meant := set{}
	showPaths(o, func(path []string) { meant[object.KeyOf(o.Owner, path)] = true })
	meant[object.Key(o)] = false // what an object names is another one
	var l [][2]string
	for i := range c.Objects {
		if key := object.Key(&c.Objects[i]); meant[key] {
			l = append(l, key)
		}
	}
	return l
}

// showPaths shows a closure all paths of an object that may mean objects.
func showPaths(o *api.Object, show func(path []string)) {
	for _, path := range tablesOf(o) {
		show(*path)
	}
	starts := func(path []string) {
		show(path[:1])
		show(path[:min(2, len(path))])
	}
	part.Looker(func(p part.Part) bool {
		if p.Stmt != nil && p.Stmt.Op == api.SCall {
			starts(p.Stmt.Path)
		}
		for n := range grammar.Nodes(p.Node) {
			switch {
			case n.Source != nil:
				show(n.Source.Path)
			case n.Change != nil:
				show(n.Change.Path)
			case n.Expr != nil && (n.Expr.Op == api.EName || n.Expr.Op == api.ECall):
				starts(n.Expr.Path)
			}
		}
		return true
	}).Object(o)
}

// tablesOf returns where an object has the paths of tables that it is made for: they are kept with their owners.
func tablesOf(o *api.Object) []*[]string {
	var l []*[]string
	for i := range o.Index {
		l = append(l, &o.Index[i].On)
	}
	for i := range o.Table {
		for j := range o.Table[i].Cons {
			if con := &o.Table[i].Cons[j]; con.Op == api.KForeign {
				l = append(l, &con.Table)
			}
		}
	}
	for i := range o.Unit {
		for j := range o.Unit[i].On {
			l = append(l, &o.Unit[i].On[j].On)
		}
	}
	return l
}

// turned returns the links the other way round.
func (l links) turned() links {
	t := links{l.all, map[[2]string][][2]string{}}
	for _, from := range l.all {
		for _, to := range l.to[from] {
			t.to[to] = append(t.to[to], from)
		}
	}
	return t
}

// from returns all objects, but some, to which links lead from these, one link after the other.
func (l links) from(some ...[2]string) [][2]string {
	reached := set{}
	var follow func(keys [][2]string)
	follow = func(keys [][2]string) {
		for _, key := range keys {
			if !reached[key] {
				reached[key] = true
				follow(l.to[key])
			}
		}
	}
	follow(some)
	return slices.DeleteFunc(slices.Clone(l.all), func(key [2]string) bool {
		return !reached[key] || slices.Contains(some, key)
	})
}

// sorted returns all objects, each behind those to which it leads, where they do not lead to each other in a circle.
func (l links) sorted() [][2]string {
	come := set{}
	left := slices.Clone(l.all)
	var all [][2]string
	for len(left) > 0 {
		at := max(0, slices.IndexFunc(left, func(key [2]string) bool {
			return !slices.ContainsFunc(l.to[key], func(to [2]string) bool { return !come[to] })
		}))
		come[left[at]] = true
		all = append(all, left[at])
		left = slices.Delete(left, at, at+1)
	}
	return all
}
