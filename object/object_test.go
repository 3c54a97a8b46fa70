package object_test

import (
	"cmp"
	"testing"

	"justiciar/api"
	"justiciar/object"
)

func some() api.Catalog {
	return api.Catalog{Objects: []api.Object{{Owner: "a", Name: "t", Stamp: 1}, {Owner: "a", Name: "u", Stamp: 2}, {Owner: "b", Name: "t", Stamp: 3}, {Owner: "t", Name: "a", Stamp: 4}}}
}

func TestFind(t *testing.T) {
	c := some()
	for i := range c.Objects {
		if o := object.Find(&c, object.Key(&c.Objects[i])); o != &c.Objects[i] {
			t.Error(i, o)
		}
	}
	for _, key := range [][2]string{{}, {"a", "a"}, {"b", "u"}, {"a", ""}, {"", "t"}} {
		if o := object.Find(&c, key); o != nil {
			t.Error(key, o)
		}
	}
}

func TestMean(t *testing.T) {
	c := some()
	for _, x := range []struct {
		schema string
		path   []string
		stamp  int
	}{
		{"a", []string{"t"}, 1}, {"a", []string{"u"}, 2}, {"b", []string{"t"}, 3}, {"a", []string{"b", "t"}, 3}, {"none", []string{"t", "a"}, 4},
		{"b", []string{"u"}, 0}, {"a", []string{"t", "u"}, 0}, {"a", nil, 0}, {"a", []string{"a", "t", "t"}, 0}, {"", []string{"t"}, 0},
	} {
		o := object.Mean(&c, x.schema, x.path)
		if (o == nil) != (x.stamp == 0) || o != nil && o.Stamp != x.stamp {
			t.Error(x, o)
		}
	}
}

func TestKeyOf(t *testing.T) {
	if k := object.KeyOf("a", []string{"t"}); k != [2]string{"a", "t"} {
		t.Error(k)
	}
	if k := object.KeyOf("a", []string{"b", "t"}); k != [2]string{"b", "t"} {
		t.Error(k)
	}
	if k := object.KeyOf("a", []string{"b", "t", "c"}); k != [2]string{"b", "t"} {
		t.Error(k)
	}
}

func TestCompare(t *testing.T) {
	l := [][2]string{{"", ""}, {"", "b"}, {"a", ""}, {"a", "b"}, {"a", "c"}, {"ab", "a"}, {"b", "a"}}
	for i := range l {
		for j := range l {
			if got := object.Compare(l[i], l[j]); got != cmp.Compare(i, j) {
				t.Error(l[i], l[j], got)
			}
		}
	}
}
