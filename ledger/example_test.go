package ledger_test

import (
	"fmt"

	"quaestor/api"
	"quaestor/ledger"
	"quaestor/term"
)

// ExampleLedger is README's: a chain that is cut goes on as if it had not been, and is packed as a snapshot.
func ExampleLedger() {
	l := ledger.New()
	for h := 1; h <= 4; h++ {
		fmt.Print(l.Append(api.Block{Height: h, Prev: l.Head()}) == api.OK, " ")
	}
	fmt.Println(l.Height())
	fmt.Println(l.Append(api.Block{Height: 4, Prev: l.Head()}) == api.ErrHeight)
	fmt.Println(l.Append(api.Block{Height: 5, Prev: "x"}) == api.ErrPrev)

	twin := l.Clone()
	fmt.Println(twin.Cut(3) == api.OK, twin.Head() == l.Head())
	_, err := twin.Block(3)
	fmt.Println(err == api.ErrNone)
	b, err := l.Block(3)
	fmt.Println(b.Height, err == api.OK)

	snapshot := ledger.Pack(l.Height(), l.Head(), []byte("state"))
	seal := ledger.Seal(snapshot)
	height, head, state, err := ledger.Unpack(snapshot)
	fmt.Println(height, string(state), err == api.OK, seal == ledger.Seal(ledger.Pack(height, head, state)))
	next, err := ledger.From(height, head)
	fmt.Println(err == api.OK, next.Append(api.Block{Height: 5, Prev: l.Head()}) == api.OK)
	// Output:
	// true true true true 4
	// true
	// true
	// true true
	// true
	// 3 true
	// 4 state true true
	// true true
}

// ExampleLedger_Cut has the examples of the chapter.
func ExampleLedger_Cut() {
	l := ledger.New()
	b := api.Block{Height: 1, Prev: term.Of(6)}
	fmt.Println(l.Append(b) == api.OK, l.Height())
	fmt.Println(l.Append(b) == api.ErrHeight)

	head := l.Head()
	fmt.Println(l.Cut(1) == api.OK)
	height, d := l.Base()
	_, err := l.Block(1)
	fmt.Println(height, d == head, err == api.ErrNone)
	// Output:
	// true 1
	// true
	// true
	// 1 true true
}
