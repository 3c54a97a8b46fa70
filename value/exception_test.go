package value_test

import (
	"testing"

	"justiciar/api"
	"justiciar/value"
)

// P1.8
func TestException(t *testing.T) {
	names := map[api.Errno]string{
		api.ErrZero: "zero_divide", api.ErrRange: "value_error", api.ErrType: "value_error", api.ErrCount: "value_error", api.ErrMany: "too_many_rows", api.ErrNone: "no_data_found", api.ErrClash: "cannot_serialize", api.ErrDead: "deadlock", api.ErrOld: "snapshot_too_old", api.ErrRights: "no_rights", api.ErrBad: "not_valid", api.ErrName: "not_valid", api.ErrDeep: "too_deep", api.ErrDoubt: "in_doubt", api.ErrLimit: "no_room",
	}
	for e := api.Errno(-50); e < 200; e++ {
		if got := value.Exception(e); got != names[e] {
			t.Error(e, got)
		}
		if got := value.Exception(e); got != "" && value.Number(got) == 0 {
			t.Error(e, got, "has no number")
		}
	}
	for _, e := range []api.Errno{-1 << 63, 1<<63 - 1} {
		if got := value.Exception(e); got != "" {
			t.Error(e, got)
		}
	}
}

// P1.8
func TestNumber(t *testing.T) {
	for name, want := range map[string]int{
		"no_data_found": 1, "too_many_rows": 2, "zero_divide": 3, "value_error": 4, "dup_val_on_index": 5, "check_violated": 6, "null_violated": 7, "parent_missing": 8, "child_found": 9, "mutating": 10, "deadlock": 11, "cannot_serialize": 12, "invalid_cursor": 13, "snapshot_too_old": 14, "no_rights": 15, "not_valid": 16, "too_deep": 17, "too_long": 18, "in_doubt": 19, "no_room": 20,
		"": 0, "others": 0, "Zero_divide": 0, "zero divide": 0, "zero_divide ": 0, "none": 0, "my_own": 0,
	} {
		if got := value.Number(name); got != want {
			t.Error(name, got)
		}
	}
}
