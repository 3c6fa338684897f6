package expr_test

import (
	"math"
	"reflect"
	"testing"

	"quaestor/api"
	"quaestor/expr"
)

// told is an expression, and what it ought to tell over fourValues.
type told struct {
	e   api.Expr
	v   api.Value
	err api.Errno
}

// fourValues are of fourFields.
func fourValues() []api.Value {
	return []api.Value{integer(6), truth(true), text("ab"), num(2.5)}
}

// tryAll asks what each expression tells.
func tryAll(t *testing.T, l []told) {
	t.Helper()
	for _, y := range l {
		if got, err := expr.Eval(y.e, fourFields(), fourValues()); !identical(got, y.v) || err != y.err {
			t.Errorf("%v: %#v, error %d, want %#v, %d", y.e, got, err, y.v, y.err)
		}
	}
}

// TestEvalInts is of promise 5.2: leaves and what is reckoned with ints.
func TestEvalInts(t *testing.T) {
	tryAll(t, []told{
		{anInt(-7), integer(-7), api.OK},
		{field("i"), integer(6), api.OK},
		{op(api.OpNeg, field("i")), integer(-6), api.OK},
		{op(api.OpNeg, anInt(math.MaxInt64)), integer(-math.MaxInt64), api.OK},
		{op(api.OpNeg, anInt(math.MinInt64)), api.Value{}, api.ErrOver},
		{op(api.OpAdd, field("i"), anInt(1)), integer(7), api.OK},
		{op(api.OpSub, anInt(1), field("i")), integer(-5), api.OK},
		{op(api.OpMul, field("i"), field("i")), integer(36), api.OK},
		{op(api.OpDiv, anInt(-7), anInt(2)), integer(-3), api.OK},
		{op(api.OpDiv, anInt(7), anInt(-2)), integer(-3), api.OK},
		{op(api.OpMin, field("i"), anInt(-1)), integer(-1), api.OK},
		{op(api.OpMax, field("i"), anInt(-1)), integer(6), api.OK},
		{over(), api.Value{}, api.ErrOver},
		{zero(), api.Value{}, api.ErrZero},
		{op(api.OpSub, anInt(math.MinInt64), anInt(1)), api.Value{}, api.ErrOver},
		{op(api.OpMul, anInt(-1), anInt(math.MinInt64)), api.Value{}, api.ErrOver},
		{op(api.OpDiv, anInt(math.MinInt64), anInt(-1)), api.Value{}, api.ErrOver},
		{op(api.OpDiv, anInt(0), anInt(0)), api.Value{}, api.ErrZero},
	})
}

// TestEvalNums is of promise 5.2: floats do not go over, and are divided by nought; the NaN is answered as the one.
func TestEvalNums(t *testing.T) {
	nan := ofBits(theNaN)
	tryAll(t, []told{
		{field("x"), num(2.5), api.OK},
		{aNum(minusNought()), num(minusNought()), api.OK},
		{op(api.OpNeg, aNum(0)), num(minusNought()), api.OK},
		{op(api.OpAdd, field("x"), aNum(0.25)), num(2.75), api.OK},
		{op(api.OpSub, aNum(0.25), field("x")), num(-2.25), api.OK},
		{op(api.OpMul, field("x"), aNum(2)), num(5), api.OK},
		{op(api.OpDiv, aNum(1), aNum(0)), num(math.Inf(1)), api.OK},
		{op(api.OpDiv, aNum(1), aNum(minusNought())), num(math.Inf(-1)), api.OK},
		{op(api.OpDiv, aNum(0), aNum(0)), nan, api.OK},
		{op(api.OpMul, aNum(math.MaxFloat64), aNum(2)), num(math.Inf(1)), api.OK},
		{op(api.OpMin, aNum(0), aNum(minusNought())), num(minusNought()), api.OK},
		{op(api.OpMax, aNum(minusNought()), aNum(0)), num(0), api.OK},
		{op(api.OpMax, aNum(1), constant(nan)), nan, api.OK},
		{op(api.OpNum, field("i")), num(6), api.OK},
		{op(api.OpNum, anInt(1<<53+1)), num(1 << 53), api.OK},
		{op(api.OpNum, anInt(0)), num(0), api.OK},
	})
	for _, w := range []uint64{theNaN, 0x7ff8000000000000, 0xfff8000000000001, 0x7ff0000000000001, math.MaxUint64} {
		odd := ofBits(w)
		fields, values := []api.Field{{Name: "a", Kind: api.KindNum}}, []api.Value{odd}
		for _, e := range []api.Expr{constant(odd), field("a"), op(api.OpNeg, field("a")), op(api.OpIf, aTruth(false), aNum(1), constant(odd)), op(api.OpIf, aTruth(true), field("a"), aNum(1))} {
			if got, err := expr.Eval(e, fields, values); !identical(got, nan) || err != api.OK {
				t.Errorf("%v of %x: %#v, error %d", e, w, got, err)
			}
		}
	}
}

// TestEvalTruths is of promise 5.2: what is equal, what is below, and what truths make.
func TestEvalTruths(t *testing.T) {
	yes, no := truth(true), truth(false)
	nan := constant(ofBits(theNaN))
	tryAll(t, []told{
		{field("b"), yes, api.OK},
		{field("t"), text("ab"), api.OK},
		{op(api.OpEq, field("i"), anInt(6)), yes, api.OK},
		{op(api.OpEq, field("i"), anInt(7)), no, api.OK},
		{op(api.OpEq, field("t"), aText("ab")), yes, api.OK},
		{op(api.OpEq, field("t"), aText("")), no, api.OK},
		{op(api.OpEq, field("b"), aTruth(false)), no, api.OK},
		{op(api.OpEq, aTruth(false), aTruth(false)), yes, api.OK},
		{op(api.OpEq, aNum(0), aNum(minusNought())), yes, api.OK},
		{op(api.OpEq, nan, nan), no, api.OK},
		{op(api.OpLess, field("i"), anInt(7)), yes, api.OK},
		{op(api.OpLess, field("i"), anInt(6)), no, api.OK},
		{op(api.OpLess, anInt(math.MinInt64), anInt(math.MaxInt64)), yes, api.OK},
		{op(api.OpLess, field("t"), aText("abc")), yes, api.OK},
		{op(api.OpLess, field("t"), aText("aa\xff")), no, api.OK},
		{op(api.OpLess, aNum(minusNought()), aNum(0)), no, api.OK},
		{op(api.OpLess, nan, field("x")), no, api.OK},
		{op(api.OpLess, field("x"), aNum(math.Inf(1))), yes, api.OK},
		{op(api.OpNot, field("b")), no, api.OK},
		{op(api.OpNot, aTruth(false)), yes, api.OK},
	})
	for _, p := range []bool{false, true} {
		for _, q := range []bool{false, true} {
			tryAll(t, []told{
				{op(api.OpAnd, aTruth(p), aTruth(q)), truth(p && q), api.OK},
				{op(api.OpOr, aTruth(p), aTruth(q)), truth(p || q), api.OK},
			})
		}
	}
}

// TestEvalSkips is of promise 5.2: what need not be reckoned is not, and what must be is.
func TestEvalSkips(t *testing.T) {
	yes, no := truth(true), truth(false)
	fails := op(api.OpEq, zero(), anInt(1))
	tryAll(t, []told{
		{op(api.OpAnd, aTruth(false), fails), no, api.OK},
		{op(api.OpOr, aTruth(true), fails), yes, api.OK},
		{op(api.OpAnd, aTruth(true), fails), api.Value{}, api.ErrZero},
		{op(api.OpOr, aTruth(false), fails), api.Value{}, api.ErrZero},
		{op(api.OpAnd, fails, aTruth(false)), api.Value{}, api.ErrZero},
		{op(api.OpOr, fails, aTruth(true)), api.Value{}, api.ErrZero},
		{op(api.OpIf, aTruth(true), anInt(1), zero()), integer(1), api.OK},
		{op(api.OpIf, aTruth(false), zero(), anInt(2)), integer(2), api.OK},
		{op(api.OpIf, aTruth(true), zero(), anInt(2)), api.Value{}, api.ErrZero},
		{op(api.OpIf, aTruth(false), anInt(1), zero()), api.Value{}, api.ErrZero},
		{op(api.OpIf, fails, anInt(1), anInt(2)), api.Value{}, api.ErrZero},
		{op(api.OpIf, field("b"), aText("a"), aText("b")), text("a"), api.OK},
		{op(api.OpIf, op(api.OpNot, field("b")), aText("a"), aText("b")), text("b"), api.OK},
		{op(api.OpIf, op(api.OpAnd, aTruth(false), fails), zero(), op(api.OpIf, op(api.OpOr, aTruth(true), fails), anInt(3), over())), integer(3), api.OK},
		{op(api.OpMul, anInt(0), zero()), api.Value{}, api.ErrZero},
		{op(api.OpEq, op(api.OpIf, aTruth(false), zero(), anInt(1)), anInt(1)), yes, api.OK},
	})
}

// TestEvalFirstError is of promise 5.2: of several errors the first one that is met, kids from the left, and ahead of their part.
func TestEvalFirstError(t *testing.T) {
	for _, o := range []int{api.OpAdd, api.OpSub, api.OpMul, api.OpDiv, api.OpMin, api.OpMax, api.OpEq, api.OpLess} {
		tryAll(t, []told{
			{op(o, over(), zero()), api.Value{}, api.ErrOver},
			{op(o, zero(), over()), api.Value{}, api.ErrZero},
			{op(o, anInt(1), over()), api.Value{}, api.ErrOver},
			{op(o, op(api.OpNeg, op(api.OpNeg, zero())), over()), api.Value{}, api.ErrZero},
		})
	}
	tryAll(t, []told{
		{op(api.OpDiv, over(), anInt(0)), api.Value{}, api.ErrOver},
		{op(api.OpDiv, anInt(0), op(api.OpSub, anInt(1), anInt(1))), api.Value{}, api.ErrZero},
		{op(api.OpIf, op(api.OpEq, over(), anInt(1)), zero(), zero()), api.Value{}, api.ErrOver},
		{op(api.OpAnd, op(api.OpEq, over(), anInt(1)), op(api.OpEq, zero(), anInt(1))), api.Value{}, api.ErrOver},
		{op(api.OpNum, zero()), api.Value{}, api.ErrZero},
		{op(api.OpNot, op(api.OpLess, over(), zero())), api.Value{}, api.ErrOver},
	})
}

// TestEvalFirstField is of promise 5.2: of several fields of a name the first one's value counts.
func TestEvalFirstField(t *testing.T) {
	fields := []api.Field{{Name: "b", Kind: api.KindText}, {Name: "a", Kind: api.KindInt}, {Name: "a", Kind: api.KindBool}, {Name: "", Kind: api.KindInt}, {Name: "a", Kind: api.KindInt}}
	values := []api.Value{text("z"), integer(1), truth(true), integer(2), integer(3)}
	for name, want := range map[string]api.Value{"a": integer(1), "b": text("z"), "": integer(2)} {
		if got, err := expr.Eval(field(name), fields, values); got != want || err != api.OK {
			t.Errorf("%q: %#v, error %d", name, got, err)
		}
	}
}

// TestEvalArg is of promise 5.2: as many values as fields, each good and of its field's kind, though it is not asked for.
func TestEvalArg(t *testing.T) {
	e := field("i")
	good := fourValues()
	for _, values := range [][]api.Value{
		nil, {}, good[:1], good[:3], append(fourValues(), integer(1)),
		{good[1], good[0], good[2], good[3]},
		{integer(6), truth(true), text("ab"), integer(2)},
		{integer(6), truth(true), num(1), num(2.5)},
		{num(6), truth(true), text("ab"), num(2.5)},
		{integer(6), {}, text("ab"), num(2.5)},
		{integer(6), truth(true), text(long(api.MaxText + 1)), num(2.5)},
		{integer(6), {Kind: api.KindBool, Bool: true, Int: 1}, text("ab"), num(2.5)},
		{integer(6), truth(true), text("ab"), {Kind: api.KindNum, Num: 1, Text: "a"}},
	} {
		for _, e := range []api.Expr{e, anInt(1), zero()} {
			if got, err := expr.Eval(e, fourFields(), values); got != (api.Value{}) || err != api.ErrArg {
				t.Errorf("%v over %#v: %#v, error %d", e, values, got, err)
			}
		}
	}
	for _, fields := range [][]api.Field{{{Name: "a", Kind: 9}}, {{Name: "a"}}, {{Name: "a", Kind: -1}}} {
		for _, v := range []api.Value{{Kind: fields[0].Kind}, integer(1)} {
			if got, err := expr.Eval(field("a"), fields, []api.Value{v}); got != (api.Value{}) || err != api.ErrArg {
				t.Errorf("%#v of kind %d: %#v, error %d", v, fields[0].Kind, got, err)
			}
		}
	}
	if got, err := expr.Eval(anInt(1), nil, nil); got != integer(1) || err != api.OK {
		t.Errorf("without fields: %#v, error %d", got, err)
	}
}

// TestEvalBoundText is of promise 5.2: a text need not be one of its field's texts: its kind alone is asked for.
func TestEvalBoundText(t *testing.T) {
	fields := []api.Field{{Name: "a", Kind: api.KindText, Enum: []string{"red"}, Init: text("red")}}
	if got, err := expr.Eval(field("a"), fields, []api.Value{text("blue")}); got != text("blue") || err != api.OK {
		t.Errorf("%#v, error %d", got, err)
	}
}

// TestEvalChecks is of promise 5.2: Check's error comes first, whatever the values are, and though that part would not be reckoned.
func TestEvalChecks(t *testing.T) {
	for _, y := range []struct {
		e    api.Expr
		want api.Errno
	}{
		{api.Expr{}, api.ErrArg},
		{op(api.OpAdd, anInt(1)), api.ErrArg},
		{constant(api.Value{}), api.ErrType},
		{field("none"), api.ErrName},
		{op(api.OpAdd, anInt(1), aTruth(true)), api.ErrType},
		{op(api.OpAnd, aTruth(false), anInt(1)), api.ErrType},
		{op(api.OpOr, aTruth(true), field("none")), api.ErrName},
		{op(api.OpIf, aTruth(true), anInt(1), aText("a")), api.ErrType},
		{op(api.OpIf, aTruth(true), anInt(1), op(api.OpAdd)), api.ErrArg},
		{op(api.OpAdd, zero(), aTruth(true)), api.ErrType},
	} {
		for _, values := range [][]api.Value{fourValues(), nil, {{}}} {
			if got, err := expr.Eval(y.e, fourFields(), values); got != (api.Value{}) || err != y.want {
				t.Errorf("%v over %#v: %#v, error %d, want %d", y.e, values, got, err, y.want)
			}
		}
	}
	for i, e := range large() {
		if got, err := expr.Eval(e, nil, []api.Value{{}}); got != (api.Value{}) || err != api.ErrDeep {
			t.Errorf("large %d: %#v, error %d", i, got, err)
		}
	}
}

// TestEvalSize is of promise 5.2: the largest expressions are reckoned, and give up from their innermost part.
func TestEvalSize(t *testing.T) {
	for parts := 1; parts <= api.MaxNodes; parts++ {
		want := sum(bush(parts, anInt(1)))
		if got, err := expr.Eval(bush(parts, anInt(1)), nil, nil); got != integer(want) || err != api.OK {
			t.Errorf("%d parts: %#v, error %d, want %d", parts, got, err, want)
		}
	}
	if got, err := expr.Eval(chain(api.MaxDeep, anInt(5)), nil, nil); got != integer(-5) || err != api.OK {
		t.Errorf("the deepest: %#v, error %d", got, err)
	}
	if got, err := expr.Eval(chain(api.MaxDeep-1, zero()), nil, nil); got != (api.Value{}) || err != api.ErrZero {
		t.Errorf("the deepest that gives up: %#v, error %d", got, err)
	}
}

// sum is what a bush of constants tells.
func sum(e api.Expr) int64 {
	switch e.Op {
	case api.OpAdd:
		return sum(e.Kids[0]) + sum(e.Kids[1])
	case api.OpNeg:
		return -sum(e.Kids[0])
	}
	return e.Val.Int
}

// TestHandedInStays is of promises 5.1 to 5.3 by rules R4 and R5: no call changes what it is handed, and asked once more it answers the same.
func TestHandedInStays(t *testing.T) {
	for _, e := range []api.Expr{op(api.OpAdd, field("i"), anInt(1)), op(api.OpIf, field("b"), field("x"), aNum(1)), zero(), op(api.OpAdd, field("none"), anInt(1)), bush(api.MaxNodes, anInt(1)), chain(api.MaxDeep+1, anInt(1))} {
		was, fields, values := clone(e), fourFields(), fourValues()
		kind, errCheck := expr.Check(e, fields)
		v, errEval := expr.Eval(e, fields, values)
		row := string(expr.Put(nil, e))
		if !alike(e, was) || !reflect.DeepEqual(fields, fourFields()) || !reflect.DeepEqual(values, fourValues()) {
			t.Errorf("%v was %v", e, was)
		}
		kind2, errCheck2 := expr.Check(e, fields)
		v2, errEval2 := expr.Eval(e, fields, values)
		if kind2 != kind || errCheck2 != errCheck || v2 != v || errEval2 != errEval || string(expr.Put(nil, e)) != row {
			t.Errorf("%v: asked twice, there are two answers", e)
		}
	}
}
