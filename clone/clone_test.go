package clone_test

import (
	"fmt"
	"reflect"
	"testing"

	"justiciar/api"
	"justiciar/clone"
)

// fill gives a value all that it may have, down to a depth of lists within each other: strings and numbers that are all different, and lists of two.
func fill(v reflect.Value, deep int, next *int) {
	*next++
	switch v.Kind() {
	case reflect.Int:
		v.SetInt(int64(*next))
	case reflect.Bool:
		v.SetBool(true)
	case reflect.String:
		v.SetString(fmt.Sprint(*next))
	case reflect.Struct:
		for i := range v.NumField() {
			fill(v.Field(i), deep, next)
		}
	case reflect.Slice:
		if deep > 0 {
			v.Set(reflect.MakeSlice(v.Type(), 2, 2))
			for i := range v.Len() {
				fill(v.Index(i), deep-1, next)
			}
		}
	}
}

func filled[T any](deep int) T {
	var x T
	next := 0
	fill(reflect.ValueOf(&x).Elem(), deep, &next)
	return x
}

// overwrite empties each value within a list, the last one first, and shows that lists within it were there.
func overwrite(v reflect.Value) {
	switch v.Kind() {
	case reflect.Struct:
		for i := range v.NumField() {
			overwrite(v.Field(i))
		}
	case reflect.Slice:
		for i := range v.Len() {
			overwrite(v.Index(i))
			v.Index(i).SetZero()
		}
	}
}

// expectCopy expects that a function copies a value, and that the copy shares no memory with it.
func expectCopy[T any](t *testing.T, copyOf func(x T) T, deep int) {
	t.Helper()
	x, want := filled[T](deep), filled[T](deep)
	c := copyOf(x)
	if !reflect.DeepEqual(c, want) {
		t.Errorf("%T: another value: %+v", x, c)
	}
	overwrite(reflect.ValueOf(&c).Elem())
	if !reflect.DeepEqual(x, want) {
		t.Errorf("%T: the copy shares memory", x)
	}
	var none T
	if c := copyOf(none); !reflect.DeepEqual(c, none) {
		t.Errorf("%T: of nothing: %+v", x, c)
	}
}

func TestParts(t *testing.T) {
	for deep := range 7 {
		expectCopy(t, clone.Expr, deep)
		expectCopy(t, clone.Query, deep)
		expectCopy(t, clone.Change, deep)
	}
}

func TestObject(t *testing.T) {
	for deep := range 7 {
		expectCopy(t, clone.Object, deep)
	}
}

func TestCatalog(t *testing.T) {
	for deep := range 4 {
		expectCopy(t, clone.Catalog, deep)
	}
	c := clone.Catalog(api.Catalog{Objects: []api.Object{filled[api.Object](4)}})
	if !reflect.DeepEqual(c.Objects[0], filled[api.Object](4)) {
		t.Error("another object")
	}
}
