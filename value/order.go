package value

import (
	"cmp"
	"strings"

	"justiciar/api"
)

// Order compares two values: -1, 0 or 1, null behind all others.
func Order(a, b api.Value) (int, api.Errno) {
	switch {
	case !allValid(a, b):
		return 0, api.ErrArg
	case !oneKind(anyKind, a, b):
		return 0, api.ErrType
	case a.Kind == b.Kind: // two nulls have the same fields
		return compare(a, b), api.OK
	case someNull(a):
		return 1, api.OK
	}
	return -1, api.OK
}

// compare compares two values of one kind.
func compare(a, b api.Value) int {
	if a.Kind == api.VText {
		return strings.Compare(a.Text, b.Text)
	}
	return cmp.Compare(a.N, b.N)
}
