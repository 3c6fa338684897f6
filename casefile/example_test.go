package casefile_test

import (
	"fmt"

	"quaestor/api"
	"quaestor/casefile"
)

// ExampleDo is README's: a case goes its way, and stays as it is where something may not be done.
func ExampleDo() {
	yes := api.Expr{Op: api.OpConst, Val: api.Value{Kind: api.KindBool, Bool: true}}
	c := api.Contract{
		Name:   "loan",
		Fields: []api.Field{{Name: "sum", Kind: api.KindInt, Init: api.Value{Kind: api.KindInt, Int: 5}}},
		Stages: []api.Stage{{Name: "ask", Need: 1, Orgs: []int{1, 2}}, {Name: "paid"}},
		Moves:  []api.Move{{Name: "pay", From: 0, To: 1, Org: -1, Guard: yes}},
	}
	none := api.Value{}

	k, err := casefile.New(c, "first")
	fmt.Println(k.Id, k.Stage, k.Values[0].Int, err == api.OK)

	k, err = casefile.Do(c, k, api.DoAdvance, "pay", none, 3)
	fmt.Println(k.Stage, k.Steps, err == api.ErrEndorse)

	k, err = casefile.Do(c, k, api.DoEndorse, "", none, 2)
	fmt.Println(k.Endorsed, k.Steps, err == api.OK)

	k, err = casefile.Do(c, k, api.DoAdvance, "pay", none, 3)
	fmt.Println(k.Stage, k.Steps, k.Endorsed, err == api.OK)

	k, err = casefile.Do(c, k, api.DoClose, "", none, 0)
	fmt.Println(k.Closed, casefile.Right(c, k), err == api.OK)

	k, err = casefile.Do(c, k, api.DoUpdate, "sum", none, 0)
	fmt.Println(k.Values[0].Int, err == api.ErrClosed)
	// Output:
	// first 0 5 true
	// 0 0 true
	// [2] 1 true
	// 1 2 [] true
	// true true true
	// 5 true
}

// ExampleDo_chapter has the examples of the chapter.
func ExampleDo_chapter() {
	c := loan()
	_, err := casefile.New(c, "")
	fmt.Println(err == api.ErrName)

	k, _ := casefile.New(c, "k")
	k, err = casefile.Do(c, k, api.DoAdvance, "grant", api.Value{}, 0)
	fmt.Println(k.Stage == pay, err == api.OK)

	k, _ = casefile.Do(c, k, api.DoEndorse, "", api.Value{}, 1)
	_, err = casefile.Do(c, k, api.DoEndorse, "", api.Value{}, 1)
	fmt.Println(err == api.ErrExists)
	// Output:
	// true
	// true true
	// true
}
