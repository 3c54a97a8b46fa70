package list_test

import (
	"cmp"
	"slices"
	"testing"

	"justiciar/list"
)

func TestEach(t *testing.T) {
	for _, x := range []struct {
		l    []int
		want bool
		seen []int
	}{
		{nil, true, nil}, {[]int{2}, true, []int{2}}, {[]int{4, 2, 2}, true, []int{4, 2, 2}}, {[]int{2, 4, 1, 6}, false, []int{2, 4, 1}}, {[]int{1, 2}, false, []int{1}},
	} {
		var seen []int
		got := list.Each(x.l, func(n *int) bool {
			seen = append(seen, *n)
			return *n%2 == 0
		})
		if got != x.want || !slices.Equal(seen, x.seen) {
			t.Error(x, got, seen)
		}
	}
	l := []int{1, 2}
	list.Each(l, func(n *int) bool { *n *= 5; return true })
	if !slices.Equal(l, []int{5, 10}) {
		t.Error(l)
	}
}

func TestRise(t *testing.T) {
	for _, x := range []struct {
		l    []string
		want bool
	}{
		{nil, true}, {[]string{"b"}, true}, {[]string{"a", "b", "c"}, true}, {[]string{"b", "a"}, false}, {[]string{"a", "a"}, false}, {[]string{"a", "c", "b"}, false}, {[]string{"a", "c", "c"}, false}, {[]string{"b", "a", "c"}, false},
	} {
		if got := list.Rise(x.l, cmp.Compare); got != x.want {
			t.Error(x, got)
		}
	}
}
