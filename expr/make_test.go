package expr_test

import (
	"math"
	"strings"

	"quaestor/api"
)

// theNaN is the one NaN that may be answered.
const theNaN = 0x7ff8000000000001

func integer(n int64) api.Value { return api.Value{Kind: api.KindInt, Int: n} }

func truth(x bool) api.Value { return api.Value{Kind: api.KindBool, Bool: x} }

func text(s string) api.Value { return api.Value{Kind: api.KindText, Text: s} }

func num(x float64) api.Value { return api.Value{Kind: api.KindNum, Num: x} }

// ofBits makes a float of its bits, as which every NaN can be had.
func ofBits(w uint64) api.Value { return num(math.Float64frombits(w)) }

func minusNought() float64 { return math.Copysign(0, -1) }

func constant(v api.Value) api.Expr { return api.Expr{Op: api.OpConst, Val: v} }

// anInt, aTruth, aText and aNum are constants of the four kinds.
func anInt(i int64) api.Expr { return constant(integer(i)) }

func aTruth(y bool) api.Expr { return constant(truth(y)) }

func aText(y string) api.Expr { return constant(text(y)) }

func aNum(y float64) api.Expr { return constant(num(y)) }

func field(name string) api.Expr { return api.Expr{Op: api.OpField, Name: name} }

func op(o int, kids ...api.Expr) api.Expr { return api.Expr{Op: o, Kids: kids} }

// over and zero give up when they are reckoned.
func over() api.Expr { return op(api.OpAdd, anInt(math.MaxInt64), anInt(1)) }

func zero() api.Expr { return op(api.OpDiv, anInt(1), anInt(0)) }

// identical tells whether two values have the same parts, to the bit.
func identical(a, b api.Value) bool {
	v, w := math.Float64bits(a.Num), math.Float64bits(b.Num)
	a.Num, b.Num = 0, 0
	return a == b && v == w
}

// alike tells whether two expressions have the same parts, to the bit.
func alike(a, b api.Expr) bool {
	if a.Op != b.Op || a.Name != b.Name || !identical(a.Val, b.Val) || len(a.Kids) != len(b.Kids) {
		return false
	}
	for i := range a.Kids {
		if !alike(a.Kids[i], b.Kids[i]) {
			return false
		}
	}
	return true
}

// empty tells whether it is the zero value of expressions.
func empty(e api.Expr) bool { return alike(e, api.Expr{}) }

// clone copies an expression: what is done to the one is not done to the other.
func clone(e api.Expr) api.Expr {
	kids := e.Kids
	e.Kids = nil
	for _, kid := range kids {
		e.Kids = append(e.Kids, clone(kid))
	}
	return e
}

// chain makes deep parts within one another, the innermost a leaf.
func chain(deep int, leaf api.Expr) api.Expr {
	e := leaf
	for range deep - 1 {
		e = op(api.OpNeg, e)
	}
	return e
}

// bush makes an expression of so many parts, from 1 on, at most MaxDeep of them within one another; each but one is a leaf or has two kids.
func bush(parts int, leaf api.Expr) api.Expr {
	switch {
	case parts <= 1:
		return leaf
	case parts == 2:
		return op(api.OpNeg, leaf)
	}
	left := (parts - 1) / 2
	return op(api.OpAdd, bush(left, leaf), bush(parts-1-left, leaf))
}

// ring makes an expression that stands within itself.
func ring(o int) api.Expr {
	kids := make([]api.Expr, 2)
	e := op(o, kids...)
	kids[0], kids[1] = e, e
	return e
}

// wide makes a part of so many kids.
func wide(o, kids int) api.Expr {
	e := api.Expr{Op: o}
	for range kids {
		e.Kids = append(e.Kids, anInt(1))
	}
	return e
}

// tooMany are expressions that are not small, none of whose parts has more than two kids.
func tooMany() []api.Expr {
	leaf, unknown := anInt(1), api.Expr{Op: 99}
	return []api.Expr{
		chain(api.MaxDeep+1, leaf), chain(api.MaxDeep+2, leaf), chain(100, leaf), chain(api.MaxDeep+1, unknown), chain(api.MaxDeep+1, api.Expr{}),
		bush(api.MaxNodes+1, leaf), bush(api.MaxNodes+2, leaf), bush(63, leaf), bush(api.MaxNodes+1, unknown),
	}
}

// large are expressions that are not small: some have no end, or more kids than any part may have.
func large() []api.Expr {
	leaf, unknown := anInt(1), api.Expr{Op: 99}
	return append(tooMany(),
		wide(api.OpAdd, api.MaxNodes), wide(api.OpConst, api.MaxNodes), wide(0, api.MaxNodes), wide(api.OpAdd, 10000),
		op(api.OpAdd, field("none"), chain(api.MaxDeep, leaf)), op(99, chain(api.MaxDeep, leaf), leaf),
		op(api.OpAdd, unknown, bush(api.MaxNodes-1, leaf)), op(api.OpAdd, bush(12, leaf), bush(12, leaf)),
		ring(api.OpAdd), ring(api.OpNeg), ring(99), op(api.OpNeg, ring(api.OpConst)), op(api.OpIf, leaf, leaf, ring(api.OpIf)),
	)
}

// long is a text of so many bytes.
func long(n int) string { return strings.Repeat("m", n) }
