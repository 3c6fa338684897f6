package contract_test

import (
	"fmt"

	"quaestor/api"
	"quaestor/contract"
	"quaestor/wire"
)

// ExampleCheck is README's: a contract is checked once; what is right is got as it was put.
func ExampleCheck() {
	sum := api.Expr{Op: api.OpField, Name: "sum"}
	nought := api.Expr{Op: api.OpConst, Val: api.Value{Kind: api.KindInt}}
	c := api.Contract{
		Name:   "loan",
		Fields: []api.Field{{Name: "sum", Kind: api.KindInt, Init: api.Value{Kind: api.KindInt, Int: 5}}},
		Stages: []api.Stage{{Name: "ask"}, {Name: "pay", Need: 1, Orgs: []int{1, 2}}},
		Moves: []api.Move{{
			Name: "grant", From: 0, To: 1, Org: -1,
			Guard:   api.Expr{Op: api.OpLess, Kids: []api.Expr{nought, sum}},
			Effects: []api.Effect{{Field: "sum", Expr: nought}},
		}},
	}

	fmt.Println(contract.Check(c) == api.OK)
	fmt.Println(contract.Stage(c, "pay"), contract.Move(c, "pay"))

	d, err := contract.Get(wire.New(contract.Put(nil, c)))
	fmt.Println(d.Name, err == api.OK)

	c.Moves[0].Guard = sum
	fmt.Println(contract.Check(c) == api.ErrMove, len(contract.Put(nil, c)))
	// Output:
	// true
	// 1 -1
	// loan true
	// true 0
}

// ExampleCheck_chapter has the examples of the chapter.
func ExampleCheck_chapter() {
	fmt.Println(contract.Check(api.Contract{Name: "a"}) == api.ErrStage)

	c := loan()
	c.Moves[0].Guard = constant(integer(1))
	fmt.Println(contract.Check(c) == api.ErrMove)

	c = loan()
	c.Fields[1].Name = c.Fields[0].Name
	fmt.Println(contract.Check(c) == api.ErrField)
	// Output:
	// true
	// true
	// true
}
