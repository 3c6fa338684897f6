package registry_test

import (
	"fmt"

	"quaestor/api"
	"quaestor/registry"
)

// ExampleRegistry_Execute is README's: clients' requests are executed one by one.
func ExampleRegistry_Execute() {
	c := api.Contract{Name: "loan", Stages: []api.Stage{{Name: "ask", Need: 1, Orgs: []int{1}}}}
	r := registry.New()

	op := registry.PutOp(nil, api.Op{Kind: api.DoDeploy, Contract: c})
	fmt.Println(r.Execute(api.Request{Client: 1000, Stamp: 1, Op: op}, 0) == api.Result{Code: api.OK, Stage: -1})

	op = registry.PutOp(nil, api.Op{Kind: api.DoOpen, Id: "first", Name: "loan"})
	fmt.Println(r.Execute(api.Request{Client: 1000, Stamp: 2, Op: op}, 0) == api.Result{Code: api.OK, Stage: 0})
	fmt.Println(r.Execute(api.Request{Client: 1000, Stamp: 2, Op: op}, 0) == api.Result{Code: api.ErrStale, Stage: -1})

	op = registry.PutOp(nil, api.Op{Kind: api.DoEndorse, Id: "first"})
	fmt.Println(r.Execute(api.Request{Client: 1002, Stamp: 1, Op: op}, 2) == api.Result{Code: api.ErrOrg, Stage: 0})
	fmt.Println(r.Execute(api.Request{Client: 1001, Stamp: 1, Op: op}, 1) == api.Result{Code: api.OK, Stage: 0})
	fmt.Println(r.Cases()[0].Endorsed, len(r.Dones()))

	last, ok := r.Last(1002)
	fmt.Println(last.Stamp, last.Result.Code == api.ErrOrg, ok)

	twin, err := registry.Get(r.Put())
	fmt.Println(twin.Digest() == r.Digest(), err == api.OK)
	// Output:
	// true
	// true
	// true
	// true
	// true
	// [1] 3
	// 1 true true
	// true true
}

// ExampleRegistry_Execute_chapter has the examples of the chapter.
func ExampleRegistry_Execute_chapter() {
	r := registry.New()
	x := api.Request{Client: 1000, Stamp: 1, Op: registry.PutOp(nil, deploy(loan()))}
	fmt.Println(r.Execute(x, 0) == none(api.OK))
	fmt.Println(r.Execute(x, 0) == none(api.ErrStale))
	fmt.Println(r.Execute(api.Request{Client: 1000, Stamp: 2, Op: []byte{0xff}}, 0) == none(api.ErrOp))
	// Output:
	// true
	// true
	// true
}
