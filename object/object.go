// Package object finds objects in catalogs, which it does not look at otherwise: layer 6 says whether they are valid.
package object

import (
	"cmp"

	"justiciar/api"
)

// Key returns an object's owner and name.
func Key(o *api.Object) [2]string { return [2]string{o.Owner, o.Name} }

// Compare says which of two objects comes first, by owner and name.
func Compare(a, b [2]string) int {
	return cmp.Or(cmp.Compare(a[0], b[0]), cmp.Compare(a[1], b[1]))
}

// KeyOf returns the owner and name that a path of one name, or the first two of a path, say for a schema.
func KeyOf(schema string, path []string) [2]string {
	if len(path) == 1 {
		return [2]string{schema, path[0]}
	}
	return [2]string{path[0], path[1]}
}

// Find returns the object with an owner and name, or nil.
func Find(c *api.Catalog, key [2]string) *api.Object {
	return first(c, func(o *api.Object) bool { return Key(o) == key })
}

// Mean returns the object that a path means for a schema, or nil.
func Mean(c *api.Catalog, schema string, path []string) *api.Object {
	if len(path) != 1 && len(path) != 2 {
		return nil
	}
	return Find(c, KeyOf(schema, path))
}

// first returns the first object that a closure wants, or nil.
func first(c *api.Catalog, wanted func(o *api.Object) bool) *api.Object {
	for i := range c.Objects {
		if wanted(&c.Objects[i]) {
			return &c.Objects[i]
		}
	}
	return nil
}
