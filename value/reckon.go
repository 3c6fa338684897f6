package value

import (
	"math"
	"math/bits"

	"quaestor/api"
)

// Reckon reckons with two.
func Reckon(op int, a, b api.Value) (api.Value, api.Errno) {
	switch {
	case !reckons(op):
		return api.Value{}, api.ErrArg
	case !alike(a, b):
		return api.Value{}, api.ErrType
	case a.Kind == api.KindInt:
		return ofInt(reckonInts(op, a.Int, b.Int))
	case a.Kind == api.KindNum:
		return ofNum(reckonNums(op, a.Num, b.Num)), api.OK
	}
	return api.Value{}, api.ErrType
}

// Neg turns a number's sign.
func Neg(a api.Value) (api.Value, api.Errno) {
	switch {
	case !Good(a):
		return api.Value{}, api.ErrType
	case a.Kind == api.KindInt:
		return ofInt(difference(0, a.Int))
	case a.Kind == api.KindNum: // 0 taken from 0 would be 0, not -0
		return ofNum(-a.Num), api.OK
	}
	return api.Value{}, api.ErrType
}

// Float makes a float of an int.
func Float(a api.Value) (api.Value, api.Errno) {
	if !Good(a) || a.Kind != api.KindInt {
		return api.Value{}, api.ErrType
	}
	return ofNum(float64(a.Int)), api.OK
}

// reckons tells whether an op is one that Reckon knows.
func reckons(op int) bool {
	switch op {
	case api.OpAdd, api.OpSub, api.OpMul, api.OpDiv, api.OpMin, api.OpMax:
		return true
	}
	return false
}

// reckonInts counts on an op that Reckon knows.
func reckonInts(op int, x, y int64) (int64, api.Errno) {
	switch op {
	case api.OpAdd:
		return sum(x, y)
	case api.OpSub:
		return difference(x, y)
	case api.OpMul:
		return product(x, y)
	case api.OpDiv:
		return quotient(x, y)
	case api.OpMin:
		return min(x, y), api.OK
	}
	return max(x, y), api.OK
}

// reckonNums counts on an op that Reckon knows. The conversions keep an operation from being fused with a later one, which would round but once.
func reckonNums(op int, x, y float64) float64 {
	switch op {
	case api.OpAdd:
		return float64(x + y)
	case api.OpSub:
		return float64(x - y)
	case api.OpMul:
		return float64(x * y)
	case api.OpDiv:
		return float64(x / y)
	case api.OpMin:
		return min(x, y)
	}
	return max(x, y)
}

// sum goes over where two of one sign make one of the other sign.
func sum(x, y int64) (int64, api.Errno) {
	s := x + y
	if (x^s)&(y^s) < 0 {
		return 0, api.ErrOver
	}
	return s, api.OK
}

// difference goes over where two of different signs make one that has not the first one's.
func difference(x, y int64) (int64, api.Errno) {
	d := x - y
	if (x^y)&(x^d) < 0 {
		return 0, api.ErrOver
	}
	return d, api.OK
}

// product goes over where its upper half is not empty, or its lower half is more than an int of its sign may be.
func product(x, y int64) (int64, api.Errno) {
	below := (x < 0) != (y < 0)
	most := uint64(math.MaxInt64)
	if below { // there is one int more there
		most++
	}
	upper, lower := bits.Mul64(size(x), size(y))
	if upper != 0 || lower > most {
		return 0, api.ErrOver
	}
	if below {
		lower = -lower
	}
	return int64(lower), api.OK
}

// quotient goes over in one case alone: there are fewer ints above nought than below.
func quotient(x, y int64) (int64, api.Errno) {
	if y == 0 {
		return 0, api.ErrZero
	}
	if x == math.MinInt64 && y == -1 {
		return 0, api.ErrOver
	}
	return x / y, api.OK
}

// size is how far an int is from nought: of the least one no int tells that.
func size(x int64) uint64 {
	if x < 0 {
		return -uint64(x)
	}
	return uint64(x)
}

// ofInt makes a value of what reckoning with ints told.
func ofInt(n int64, err api.Errno) (api.Value, api.Errno) {
	if err != api.OK {
		return api.Value{}, err
	}
	return api.Value{Kind: api.KindInt, Int: n}, api.OK
}

// ofNum makes a value of a float: machines make NaNs of several bits.
func ofNum(x float64) api.Value {
	return api.Value{Kind: api.KindNum, Num: math.Float64frombits(numBits(x))}
}
