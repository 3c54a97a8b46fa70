// Package kind says of which kind the values are that operations, functions and aggregates of layer 1 give, by the kinds of those that they take. VNull is the kind of what is always null: that fits all kinds.
package kind

import (
	"cmp"

	"justiciar/api"
)

// Fit reports whether values of one kind may stand where those of another one do.
func Fit(a, b api.Kind) bool { return a == b || a == api.VNull || b == api.VNull }

// Operation returns the kind of what an operation of one, or between two, gives: ErrName, if there is none, ErrCount or ErrType.
func Operation(op string, l ...api.Kind) (api.Kind, api.Errno) {
	if len(l) == 1 {
		return unaryOf(op).of(l)
	}
	return binaryOf(op).of(l)
}

// Call returns the kind of what a function or an aggregate gives: ErrName, if there is none, ErrCount or ErrType.
func Call(name string, l ...api.Kind) (api.Kind, api.Errno) {
	return functionOf(name).of(l)
}

// shape is the kinds of what is taken and given; that of nothing takes nothing. VNull among what is taken stands for any kind, that is the same wherever it stands, and as what is given for that kind.
type shape struct {
	takes []api.Kind
	gives api.Kind
}

// taking returns the shape of what takes values of some kinds.
func taking(l ...api.Kind) shape { return shape{takes: l} }

func (s shape) giving(k api.Kind) shape { return shape{s.takes, k} }

// of returns the kind of what is given for what is taken.
func (s shape) of(l []api.Kind) (api.Kind, api.Errno) {
	if len(s.takes) == 0 {
		return api.VNull, api.ErrName
	}
	if len(l) != len(s.takes) {
		return api.VNull, api.ErrCount
	}
	common := api.VNull
	for i, k := range l {
		if !Fit(k, cmp.Or(s.takes[i], common)) {
			return api.VNull, api.ErrType
		}
		common = cmp.Or(common, k)
	}
	return cmp.Or(s.gives, common), api.OK
}

func unaryOf(op string) shape {
	switch op {
	case "-":
		return taking(api.VInt).giving(api.VInt)
	case "not":
		return taking(api.VBool).giving(api.VBool)
	}
	return shape{}
}

func binaryOf(op string) shape {
	switch op {
	case "+", "-", "*", "/", "mod":
		return taking(api.VInt, api.VInt).giving(api.VInt)
	case "||":
		return taking(api.VText, api.VText).giving(api.VText)
	case "like":
		return taking(api.VText, api.VText).giving(api.VBool)
	case "and", "or":
		return taking(api.VBool, api.VBool).giving(api.VBool)
	case "=", "<>", "<", "<=", ">", ">=":
		return taking(api.VNull, api.VNull).giving(api.VBool)
	}
	return shape{}
}

func functionOf(name string) shape {
	switch name {
	case "abs", "sign", "sum":
		return taking(api.VInt).giving(api.VInt)
	case "to_text":
		return taking(api.VInt).giving(api.VText)
	case "length", "to_int":
		return taking(api.VText).giving(api.VInt)
	case "upper", "lower":
		return taking(api.VText).giving(api.VText)
	case "substr":
		return taking(api.VText, api.VInt, api.VInt).giving(api.VText)
	case "count":
		return taking(api.VNull).giving(api.VInt)
	case "min", "max":
		return taking(api.VNull)
	case "nvl", "nullif", "least", "greatest":
		return taking(api.VNull, api.VNull)
	}
	return shape{}
}
