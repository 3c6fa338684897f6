package block_test

import (
	"fmt"

	"quaestor/api"
	"quaestor/block"
	"quaestor/term"
)

// ExampleIncluded is README's: who knows a block's header needs no block to check what stands in it.
func ExampleIncluded() {
	b := api.Block{
		Height:   1,
		Prev:     term.Of(6),
		Requests: []api.Envelope{{Signer: 1000, Body: []byte("a")}, {Signer: 1001, Body: []byte("b")}},
		Results:  []api.Result{{Code: api.OK, Stage: 0}, {Code: api.ErrGuard, Stage: 2}},
	}
	h := block.Header(b)
	fmt.Println(block.Check(b) == api.OK, h.Count)

	path, err := block.Prove(b, 1)
	fmt.Println(len(path), err == api.OK)
	fmt.Println(block.Included(h, 1, b.Requests[1], b.Results[1], path) == api.OK)
	fmt.Println(block.Included(h, 1, b.Requests[1], b.Results[0], path) == api.ErrPath)

	twin, err := block.Get(block.Put(b))
	fmt.Println(block.Digest(block.Header(twin)) == block.Digest(h), err == api.OK)

	b.Results = b.Results[:1]
	fmt.Println(block.Check(b) == api.ErrBlock, len(block.Put(b)))
	// Output:
	// true 2
	// 1 true
	// true
	// true
	// true true
	// true 0
}

// ExampleCheck has the examples of the chapter.
func ExampleCheck() {
	one := []api.Envelope{{Signer: 1000}}
	fmt.Println(block.Check(api.Block{Height: 0}) == api.ErrHeight)
	fmt.Println(block.Check(api.Block{Height: 1, Requests: one}) == api.ErrBlock)

	path, err := block.Prove(api.Block{Height: 1, Requests: one, Results: []api.Result{{}}}, 0)
	fmt.Println(len(path), err == api.OK)
	// Output:
	// true
	// true
	// 0 true
}
