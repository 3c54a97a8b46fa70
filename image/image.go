// Package image looks at images: layer 8 says which are valid.
package image

import (
	"cmp"
	"slices"

	"justiciar/api"
	"justiciar/list"
	"justiciar/object"
	"justiciar/value"
)

// Valid reports whether an image is valid for a catalog that is.
func Valid(c *api.Catalog, m *api.Image) bool {
	return isCount(m.Time) && list.Rise(m.Tables, func(a, b api.Stored) int { return object.Compare(keyOf(&a), keyOf(&b)) }) &&
		list.Each(m.Tables, func(s *api.Stored) bool { return isStored(c, s) })
}

func isCount(n int) bool { return 0 <= n && n <= api.MaxInt }

func keyOf(s *api.Stored) [2]string { return [2]string{s.Owner, s.Name} }

// isStored reports whether there is such a table, which can have these rows.
func isStored(c *api.Catalog, s *api.Stored) bool {
	o := object.Find(c, keyOf(s))
	return o != nil && o.Kind == api.OTable && 1 <= s.Next && s.Next <= api.MaxInt && len(s.Rows) <= api.MaxRows &&
		list.Rise(s.Rows, func(a, b api.Held) int { return cmp.Compare(a.Id, b.Id) }) &&
		list.Each(s.Rows, func(h *api.Held) bool { return 1 <= h.Id && h.Id < s.Next && Fits(h.Row, o.Table[0].Cols) })
}

// Fits reports whether a row has values for the first ones of some columns.
func Fits(r api.Row, cols []api.Column) bool {
	if !value.IsRow(r) || len(r) > len(cols) {
		return false
	}
	for i, v := range r {
		if v.Kind != api.VNull && v.Kind != cols[i].Type {
			return false
		}
	}
	return true
}

// Rows returns the rows that an image has of the table with an owner and name.
func Rows(m *api.Image, key [2]string) []api.Held {
	i := slices.IndexFunc(m.Tables, func(s api.Stored) bool { return keyOf(&s) == key })
	if i < 0 {
		return nil
	}
	return m.Tables[i].Rows
}
