package value

import (
	"strconv"
	"strings"

	"justiciar/api"
)

// Text returns a value's string.
func Text(v api.Value) (string, api.Errno) {
	switch {
	case !Valid(v):
		return "", api.ErrArg
	case v.Kind == api.VNull:
		return "null", api.OK
	case v.Kind == api.VInt:
		return strconv.Itoa(v.N), api.OK
	case v.Kind == api.VBool:
		return strconv.FormatBool(True(v)), api.OK
	}
	return "'" + strings.ReplaceAll(v.Text, "'", "''") + "'", api.OK
}

// Parse returns the value whose Text a string is.
func Parse(s string) (api.Value, api.Errno) {
	v := likely(s)
	if t, e := Text(v); e != api.OK || t != s {
		return api.Value{}, api.ErrForm
	}
	return v, api.OK
}

// likely returns the only value whose Text a string may be; it may be not valid, or have another Text.
func likely(s string) api.Value {
	switch s {
	case "true":
		return boolean(true)
	case "false":
		return boolean(false)
	}
	if len(s) > 1 && s[0] == '\'' {
		return text(strings.ReplaceAll(s[1:len(s)-1], "''", "'"))
	}
	if n, err := strconv.Atoi(s); err == nil {
		return integer(n)
	}
	return api.Value{}
}
