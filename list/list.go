// Package list looks at lists with closures.
package list

// Each reports whether all elements of a list are as a closure wants; it goes no further than to the first that is not.
func Each[T any](l []T, wanted func(x *T) bool) bool {
	for i := range l {
		if !wanted(&l[i]) {
			return false
		}
	}
	return true
}

// Rise reports whether the elements of a list rise, and are all different.
func Rise[T any](l []T, compare func(a, b T) int) bool {
	for i := 1; i < len(l); i++ {
		if compare(l[i-1], l[i]) >= 0 {
			return false
		}
	}
	return true
}
