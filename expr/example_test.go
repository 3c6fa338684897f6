package expr_test

import (
	"fmt"

	"quaestor/api"
	"quaestor/expr"
	"quaestor/wire"
)

// ExampleEval is README's: what is checked tells a value of its kind, or goes over, or divides by nought.
func ExampleEval() {
	fields := []api.Field{{Name: "a", Kind: api.KindInt}}
	values := []api.Value{{Kind: api.KindInt, Int: 2}}

	a := api.Expr{Op: api.OpField, Name: "a"}
	one := api.Expr{Op: api.OpConst, Val: api.Value{Kind: api.KindInt, Int: 1}}
	sum := api.Expr{Op: api.OpAdd, Kids: []api.Expr{a, one}}

	kind, err := expr.Check(sum, fields)
	fmt.Println(kind == api.KindInt, err == api.OK)
	v, err := expr.Eval(sum, fields, values)
	fmt.Println(v.Int, err == api.OK)

	values[0].Int = 9223372036854775807
	_, err = expr.Eval(sum, fields, values)
	fmt.Println(err == api.ErrOver)
	_, err = expr.Check(sum, nil)
	fmt.Println(err == api.ErrName)

	e, err := expr.Get(wire.New(expr.Put(nil, sum)))
	fmt.Println(e.Op == api.OpAdd, len(e.Kids), err == api.OK)
	// Output:
	// true true
	// 3 true
	// true
	// true
	// true 2 true
}

// ExampleCheck has the examples of the chapter.
func ExampleCheck() {
	fields := []api.Field{{Name: "a", Kind: api.KindInt}}
	values := []api.Value{{Kind: api.KindInt, Int: 2}}

	_, err := expr.Check(op(api.OpLess, field("a"), aNum(1.5)), fields)
	fmt.Println(err == api.ErrType)
	v, err := expr.Eval(op(api.OpAnd, aTruth(false), op(api.OpEq, zero(), anInt(1))), fields, values)
	fmt.Println(v.Bool, err == api.OK)
	_, err = expr.Eval(zero(), fields, values)
	fmt.Println(err == api.ErrZero)
	// Output:
	// true
	// false true
	// true
}
