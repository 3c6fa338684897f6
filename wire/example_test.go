package wire_test

import (
	"fmt"

	"quaestor/wire"
)

// ExampleReader is README's: things are read as they were put, and the error is asked once, at the end.
func ExampleReader() {
	b := wire.PutBytes(wire.PutInt(nil, -7), []byte("ab"))

	r := wire.New(b)
	n := r.Int()
	x := r.Bytes(32)
	r.End()
	fmt.Println(n, string(x), r.Err())
	// Output: -7 ab 0
}
