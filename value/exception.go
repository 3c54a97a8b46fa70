package value

import (
	"slices"

	"justiciar/api"
)

// Exception returns the name of the exception that an error is; empty, if it is none.
func Exception(e api.Errno) string {
	switch e {
	case api.ErrZero:
		return "zero_divide"
	case api.ErrRange, api.ErrType, api.ErrCount:
		return "value_error"
	case api.ErrMany:
		return "too_many_rows"
	case api.ErrNone:
		return "no_data_found"
	case api.ErrClash:
		return "cannot_serialize"
	case api.ErrDead:
		return "deadlock"
	case api.ErrOld:
		return "snapshot_too_old"
	case api.ErrRights:
		return "no_rights"
	case api.ErrBad, api.ErrName:
		return "not_valid"
	case api.ErrDeep:
		return "too_deep"
	case api.ErrDoubt:
		return "in_doubt"
	case api.ErrLimit:
		return "no_room"
	}
	return ""
}

// Number returns the number of an exception that is always there; 0, if there is none of that name.
func Number(name string) int {
	numbered := []string{
		"no_data_found", "too_many_rows", "zero_divide", "value_error", "dup_val_on_index",
		"check_violated", "null_violated", "parent_missing", "child_found", "mutating",
		"deadlock", "cannot_serialize", "invalid_cursor", "snapshot_too_old", "no_rights",
		"not_valid", "too_deep", "too_long", "in_doubt", "no_room",
	}
	return slices.Index(numbered, name) + 1
}
