package value_test

import (
	"fmt"
	"math"
	"math/big"
	"math/rand"
	"testing"

	"quaestor/api"
	"quaestor/value"
)

// ops are those that Reckon knows.
func ops() []int {
	return []int{api.OpAdd, api.OpSub, api.OpMul, api.OpDiv, api.OpMin, api.OpMax}
}

// tells asks that a call told a value, to the bit, or an error beside the zero value.
func tells(t *testing.T, call string, got api.Value, err api.Errno, want api.Value, wantErr api.Errno) {
	t.Helper()
	if !identical(got, want) || err != wantErr {
		t.Errorf("%s: %#v (%x), error %d, want %#v (%x), error %d", call, got, math.Float64bits(got.Num), err, want, math.Float64bits(want.Num), wantErr)
	}
}

// ints are those at whose edges reckoning goes over, and ordinary ones.
func ints() []int64 {
	l := []int64{0, 1, 2, 3, 5, 7, 10, 100, 3037000499, 3037000500, 1<<31 - 1, 1 << 31, 1<<32 - 1, 1 << 32, 1<<32 + 1, 1 << 62, 1<<62 + 1, math.MaxInt64 / 3, math.MaxInt64 / 2, math.MaxInt64 - 1, math.MaxInt64}
	for _, n := range l {
		if n != 0 {
			l = append(l, -n)
		}
	}
	return append(l, math.MinInt64)
}

// exact reckons with ints that never go over.
func exact(op int, a, b int64) (*big.Int, api.Errno) {
	x, y, z := big.NewInt(a), big.NewInt(b), new(big.Int)
	switch op {
	case api.OpAdd:
		z.Add(x, y)
	case api.OpSub:
		z.Sub(x, y)
	case api.OpMul:
		z.Mul(x, y)
	case api.OpDiv:
		if b == 0 {
			return nil, api.ErrZero
		}
		z.Quo(x, y)
	case api.OpMin:
		z.SetInt64(a)
		if y.Cmp(x) < 0 {
			z = y
		}
	case api.OpMax:
		z.SetInt64(a)
		if y.Cmp(x) > 0 {
			z = y
		}
	}
	if !z.IsInt64() {
		return nil, api.ErrOver
	}
	return z, api.OK
}

// reckonsExactly asks of two ints all ops.
func reckonsExactly(t *testing.T, a, b int64) {
	t.Helper()
	for _, op := range ops() {
		got, err := value.Reckon(op, integer(a), integer(b))
		var want api.Value
		n, wantErr := exact(op, a, b)
		if wantErr == api.OK {
			want = integer(n.Int64())
		}
		if got != want || err != wantErr {
			t.Errorf("op %d of %d, %d: %#v, error %d, want %#v, error %d", op, a, b, got, err, want, wantErr)
		}
	}
}

// TestReckonInts is of promise 4.4: ints against ints that know no bound, at the edges and at random.
func TestReckonInts(t *testing.T) {
	for _, a := range ints() {
		for _, b := range ints() {
			reckonsExactly(t, a, b)
		}
	}
	dice := rand.New(rand.NewSource(4))
	for range 20000 {
		a, b := int64(dice.Uint64())>>dice.Intn(64), int64(dice.Uint64())>>dice.Intn(64)
		reckonsExactly(t, a, b)
	}
}

// TestReckonIntRows is of promise 4.4: what the chapter names, written out.
func TestReckonIntRows(t *testing.T) {
	for _, x := range []struct {
		op         int
		a, b, want int64
		err        api.Errno
	}{
		{api.OpAdd, 2, 3, 5, api.OK},
		{api.OpAdd, math.MaxInt64, 1, 0, api.ErrOver},
		{api.OpAdd, math.MinInt64, -1, 0, api.ErrOver},
		{api.OpAdd, math.MinInt64, math.MaxInt64, -1, api.OK},
		{api.OpSub, 2, 3, -1, api.OK},
		{api.OpSub, 0, math.MinInt64, 0, api.ErrOver},
		{api.OpSub, -1, math.MinInt64, math.MaxInt64, api.OK},
		{api.OpSub, math.MinInt64, 1, 0, api.ErrOver},
		{api.OpMul, -3, 4, -12, api.OK},
		{api.OpMul, -1, math.MinInt64, 0, api.ErrOver},
		{api.OpMul, math.MinInt64, -1, 0, api.ErrOver},
		{api.OpMul, math.MinInt64, 1, math.MinInt64, api.OK},
		{api.OpMul, 1 << 32, 1 << 31, 0, api.ErrOver},
		{api.OpMul, 1 << 32, -1 << 31, math.MinInt64, api.OK},
		{api.OpMul, 1 << 32, 1 << 32, 0, api.ErrOver},
		{api.OpMul, math.MinInt64, math.MinInt64, 0, api.ErrOver},
		{api.OpMul, math.MinInt64, 0, 0, api.OK},
		{api.OpDiv, 7, 2, 3, api.OK},
		{api.OpDiv, -7, 2, -3, api.OK},
		{api.OpDiv, 7, -2, -3, api.OK},
		{api.OpDiv, -7, -2, 3, api.OK},
		{api.OpDiv, 1, 0, 0, api.ErrZero},
		{api.OpDiv, 0, 0, 0, api.ErrZero},
		{api.OpDiv, math.MinInt64, 0, 0, api.ErrZero},
		{api.OpDiv, math.MinInt64, -1, 0, api.ErrOver},
		{api.OpDiv, math.MinInt64, 1, math.MinInt64, api.OK},
		{api.OpMin, -1, 1, -1, api.OK},
		{api.OpMin, 1, -1, -1, api.OK},
		{api.OpMax, -1, 1, 1, api.OK},
		{api.OpMax, 1, -1, 1, api.OK},
	} {
		got, err := value.Reckon(x.op, integer(x.a), integer(x.b))
		var want api.Value
		if x.err == api.OK {
			want = integer(x.want)
		}
		tells(t, fmt.Sprintf("op %d of %d, %d", x.op, x.a, x.b), got, err, want, x.err)
	}
}

// floats are those at whose edges reckoning is rounded, or tells no number.
func floats() []float64 {
	l := []float64{0, 1, 2, 3, 10, 0.1, 0.2, 0.3, 1.0 / 3, 1 + 0x1p-52, 1 - 0x1p-53, 0x1p53, 0x1p53 + 2, 0x1p-53, 0x1p-54, 1e16, 1e300, 1e-300, 0x1p-1022, 0x1p-1023, 0x1.8p-1060, math.SmallestNonzeroFloat64, math.MaxFloat64, math.MaxFloat64 / 2, 0x1p970, 0x1p969, math.Inf(1)}
	for _, x := range l {
		l = append(l, -x)
	}
	return append(l, math.NaN())
}

// reckonNum asks for an op of two floats, which never has an error and tells no NaN but the one.
func reckonNum(t *testing.T, op int, a, b api.Value) float64 {
	t.Helper()
	got, err := value.Reckon(op, a, b)
	x := got.Num
	if math.IsNaN(x) && math.Float64bits(x) != theNaN {
		t.Errorf("op %d of %v, %v: the NaN of bits %x", op, a.Num, b.Num, math.Float64bits(x))
	}
	got.Num = 0
	if got != (api.Value{Kind: api.KindNum}) || err != api.OK {
		t.Errorf("op %d of %v, %v: %#v, error %d", op, a.Num, b.Num, got, err)
	}
	return x
}

// rounded reckons with the numbers that two floats are, and tells the nearest float, of two as near the even one.
func rounded(op int, a, b float64) float64 {
	x, y, z := new(big.Rat).SetFloat64(a), new(big.Rat).SetFloat64(b), new(big.Rat)
	switch op {
	case api.OpAdd:
		z.Add(x, y)
	case api.OpSub:
		z.Sub(x, y)
	case api.OpMul:
		z.Mul(x, y)
	case api.OpDiv:
		z.Quo(x, y)
	}
	near, _ := z.Float64()
	return near
}

// isNumber tells whether a float is neither infinite nor the NaN.
func isNumber(x float64) bool {
	return x-x == 0
}

// TestReckonRounds is of promise 4.4: sums, differences, products and quotients of numbers are rounded once, to the nearest float.
func TestReckonRounds(t *testing.T) {
	l := floats()
	dice := rand.New(rand.NewSource(5))
	for range 60 {
		l = append(l, math.Float64frombits(dice.Uint64()), dice.NormFloat64())
	}
	for _, a := range l {
		for _, b := range l {
			for _, op := range []int{api.OpAdd, api.OpSub, api.OpMul, api.OpDiv} {
				if !isNumber(a) || !isNumber(b) || op == api.OpDiv && b == 0 {
					continue
				}
				if got, want := reckonNum(t, op, num(a), num(b)), rounded(op, a, b); got != want {
					t.Errorf("op %d of %v, %v: %v, want %v", op, a, b, got, want)
				}
			}
		}
	}
}

// TestReckonFloatRows is of promise 4.4: noughts with their signs, what is infinite, and what is no number.
func TestReckonFloatRows(t *testing.T) {
	inf, nan, below := math.Inf(1), math.Float64frombits(theNaN), minusNought()
	for _, x := range []struct {
		op         int
		a, b, want float64
	}{
		{api.OpAdd, 0.1, 0.2, 0.30000000000000004},
		{api.OpAdd, 0x1p53, 1, 0x1p53},
		{api.OpAdd, 0x1p53 + 2, 1, 0x1p53 + 4},
		{api.OpAdd, below, below, below},
		{api.OpAdd, below, 0, 0},
		{api.OpAdd, 1, -1, 0},
		{api.OpAdd, math.MaxFloat64, math.MaxFloat64, inf},
		{api.OpAdd, math.MaxFloat64, 0x1p969, math.MaxFloat64},
		{api.OpAdd, math.MaxFloat64, 0x1p970, inf},
		{api.OpAdd, inf, 1, inf},
		{api.OpAdd, inf, -inf, nan},
		{api.OpSub, inf, inf, nan},
		{api.OpSub, below, 0, below},
		{api.OpSub, 0, 0, 0},
		{api.OpSub, -inf, inf, -inf},
		{api.OpMul, 0, inf, nan},
		{api.OpMul, -inf, below, nan},
		{api.OpMul, -1, 0, below},
		{api.OpMul, below, below, 0},
		{api.OpMul, -inf, 2, -inf},
		{api.OpMul, math.SmallestNonzeroFloat64, 0.5, 0},
		{api.OpMul, -math.SmallestNonzeroFloat64, 0.5, below},
		{api.OpMul, math.SmallestNonzeroFloat64, 0.75, math.SmallestNonzeroFloat64},
		{api.OpMul, math.MaxFloat64, -2, -inf},
		{api.OpDiv, 1, 0, inf},
		{api.OpDiv, -1, 0, -inf},
		{api.OpDiv, 1, below, -inf},
		{api.OpDiv, 0, 0, nan},
		{api.OpDiv, inf, -inf, nan},
		{api.OpDiv, -1, inf, below},
		{api.OpDiv, 1, 3, 1.0 / 3},
		{api.OpMin, below, 0, below},
		{api.OpMin, 0, below, below},
		{api.OpMin, 1, 2, 1},
		{api.OpMin, 2, -inf, -inf},
		{api.OpMax, below, 0, 0},
		{api.OpMax, 0, below, 0},
		{api.OpMax, below, below, below},
		{api.OpMax, 1, 2, 2},
		{api.OpMax, -inf, -2, -2},
	} {
		if got := reckonNum(t, x.op, num(x.a), num(x.b)); math.Float64bits(got) != math.Float64bits(x.want) {
			t.Errorf("op %d of %v, %v: %v, want %v", x.op, x.a, x.b, got, x.want)
		}
	}
}

// TestReckonLesserAndGreater is of promise 4.4: of two numbers that stand in order it is the first one, the other one.
func TestReckonLesserAndGreater(t *testing.T) {
	for _, a := range goods() {
		for _, b := range goods() {
			if a.Kind != b.Kind || a.Kind != api.KindInt && a.Kind != api.KindNum || a.Num != a.Num || b.Num != b.Num {
				continue
			}
			lesser, greater := a, b
			if value.Order(a, b) > 0 {
				lesser, greater = b, a
			}
			got, err := value.Reckon(api.OpMin, a, b)
			tells(t, fmt.Sprintf("the lesser of %v, %v", a, b), got, err, lesser, api.OK)
			got, err = value.Reckon(api.OpMax, a, b)
			tells(t, fmt.Sprintf("the greater of %v, %v", a, b), got, err, greater, api.OK)
		}
	}
}

// TestReckonNaN is of promise 4.4: with a NaN, whichever it is, each op tells the NaN.
func TestReckonNaN(t *testing.T) {
	for _, op := range ops() {
		for _, x := range nans() {
			for _, y := range append(floats(), math.Float64frombits(nans()[6])) {
				a, b := ofBits(x), num(y)
				if got := reckonNum(t, op, a, b); got == got {
					t.Errorf("op %d of a NaN and %v: %v", op, y, got)
				}
				if got := reckonNum(t, op, b, a); got == got {
					t.Errorf("op %d of %v and a NaN: %v", op, y, got)
				}
			}
		}
	}
}

// TestReckonErrors is of promise 4.4: an op that is none is told first, then what is not good, or not two ints or two floats.
func TestReckonErrors(t *testing.T) {
	none := []int{-1, 0, api.OpConst, api.OpField, api.OpNeg, api.OpEq, api.OpLess, api.OpAnd, api.OpOr, api.OpNot, api.OpIf, api.OpNum, 17, math.MaxInt, math.MinInt, 1<<32 + api.OpAdd}
	all := append(goods(), bads()...)
	for _, a := range all {
		for _, b := range all {
			for _, op := range none {
				if got, err := value.Reckon(op, a, b); got != (api.Value{}) || err != api.ErrArg {
					t.Fatalf("op %d of %#v, %#v: %#v, error %d", op, a, b, got, err)
				}
			}
			if value.Good(a) && value.Good(b) && a.Kind == b.Kind && (a.Kind == api.KindInt || a.Kind == api.KindNum) {
				continue
			}
			for _, op := range ops() {
				if got, err := value.Reckon(op, a, b); got != (api.Value{}) || err != api.ErrType {
					t.Fatalf("op %d of %#v, %#v: %#v, error %d", op, a, b, got, err)
				}
			}
		}
	}
}

// TestNeg is of promise 4.4: ints and floats with the other sign; the least int goes over.
func TestNeg(t *testing.T) {
	for _, n := range []int64{0, 1, -1, 7, math.MaxInt64, -math.MaxInt64} {
		got, err := value.Neg(integer(n))
		tells(t, fmt.Sprint("Neg of ", n), got, err, integer(-n), api.OK)
	}
	got, err := value.Neg(integer(math.MinInt64))
	tells(t, "Neg of the least int", got, err, api.Value{}, api.ErrOver)
	for _, x := range floats() {
		got, err := value.Neg(num(x))
		want := num(math.Copysign(x, -1))
		if math.Signbit(x) {
			want = num(math.Abs(x))
		}
		if x != x {
			want = ofBits(theNaN)
		}
		tells(t, fmt.Sprint("Neg of ", x), got, err, want, api.OK)
	}
	for _, x := range nans() {
		got, err := value.Neg(ofBits(x))
		tells(t, "Neg of a NaN", got, err, ofBits(theNaN), api.OK)
	}
	for _, v := range append(bads(), truth(false), truth(true), text(""), text("1")) {
		got, err := value.Neg(v)
		tells(t, fmt.Sprintf("Neg of %#v", v), got, err, api.Value{}, api.ErrType)
	}
}

// TestFloat is of promise 4.4: the nearest float of an int, of two as near the even one.
func TestFloat(t *testing.T) {
	for _, x := range []struct {
		n    int64
		want float64
	}{
		{0, 0}, {1, 1}, {-1, -1}, {1 << 53, 0x1p53}, {-1 << 53, -0x1p53},
		{1<<53 + 1, 0x1p53}, {1<<53 + 2, 0x1p53 + 2}, {1<<53 + 3, 0x1p53 + 4}, {-1<<53 - 1, -0x1p53}, {-1<<53 - 3, -0x1p53 - 4},
		{1<<54 + 2, 0x1p54}, {1<<54 + 3, 0x1p54 + 4}, {1<<54 + 6, 0x1p54 + 8},
		{math.MaxInt64, 0x1p63}, {math.MaxInt64 - 511, 0x1p63}, {math.MaxInt64 - 512, 0x1p63 - 1024}, {math.MinInt64, -0x1p63},
	} {
		got, err := value.Float(integer(x.n))
		tells(t, fmt.Sprint("Float of ", x.n), got, err, num(x.want), api.OK)
	}
	for _, n := range ints() {
		got, err := value.Float(integer(n))
		want, _ := new(big.Rat).SetInt64(n).Float64()
		tells(t, fmt.Sprint("Float of ", n), got, err, num(want), api.OK)
	}
	for _, v := range append(bads(), truth(true), text("1"), num(1), num(0), ofBits(theNaN)) {
		got, err := value.Float(v)
		tells(t, fmt.Sprintf("Float of %#v", v), got, err, api.Value{}, api.ErrType)
	}
}
