package expr

import (
	"quaestor/api"
	"quaestor/value"
)

// Eval tells its value.
func Eval(e api.Expr, fields []api.Field, values []api.Value) (api.Value, api.Errno) {
	if _, err := Check(e, fields); err != api.OK {
		return api.Value{}, err
	}
	if !fit(values, fields) {
		return api.Value{}, api.ErrArg
	}
	return reckoner{fields, values}.reckon(e)
}

// fit tells whether values are those of fields, each of its field's kind. (A field's texts bind what it may be, not what may be reckoned with.)
func fit(values []api.Value, fields []api.Field) bool {
	if len(values) != len(fields) {
		return false
	}
	for i, v := range values {
		if !value.Good(v) || v.Kind != fields[i].Kind {
			return false
		}
	}
	return true
}

// reckoner reckons with what fields have. It counts on what Check takes, and on values that fit.
type reckoner struct {
	fields []api.Field
	values []api.Value
}

// reckon is where reckoning begins, and where it comes back to when it gives up.
func (m reckoner) reckon(e api.Expr) (v api.Value, err api.Errno) {
	defer func() {
		if x := recover(); x != nil {
			v, err = api.Value{}, x.(api.Errno)
		}
	}()
	return settled(m.tell(e)), api.OK
}

// sure gives up where there is an error, however many parts are not done yet.
func sure[T any](x T, err api.Errno) T {
	if err != api.OK {
		panic(err)
	}
	return x
}

// settled turns every NaN to the one that is answered: a constant's or a field's may be another one. The lesser of a float and itself is that float, by layer 4, which answers no other NaN.
func settled(v api.Value) api.Value {
	if v.Kind != api.KindNum {
		return v
	}
	return sure(value.Reckon(api.OpMin, v, v))
}

// tell tells what a part tells. No kid is reckoned that need not be: it may go over, or divide by nought.
func (m reckoner) tell(e api.Expr) api.Value {
	switch e.Op {
	case api.OpConst:
		return e.Val
	case api.OpField:
		return m.values[place(e.Name, m.fields)]
	}
	first := m.tell(e.Kids[0])
	switch e.Op {
	case api.OpNeg:
		return sure(value.Neg(first))
	case api.OpNum:
		return sure(value.Float(first))
	case api.OpNot:
		return truth(!first.Bool)
	case api.OpAnd, api.OpOr:
		if first.Bool == (e.Op == api.OpOr) { // that decides it
			return first
		}
		return m.tell(e.Kids[1])
	case api.OpIf:
		if first.Bool {
			return m.tell(e.Kids[1])
		}
		return m.tell(e.Kids[2])
	}
	return pair(e.Op, first, m.tell(e.Kids[1]))
}

// pair tells what an op makes of two, both of which are always reckoned.
func pair(op int, a, b api.Value) api.Value {
	switch op {
	case api.OpEq:
		return truth(sure(value.Equal(a, b)))
	case api.OpLess:
		return truth(sure(value.Less(a, b)))
	}
	return sure(value.Reckon(op, a, b))
}

// truth makes a value of a truth.
func truth(x bool) api.Value {
	return api.Value{Kind: api.KindBool, Bool: x}
}
