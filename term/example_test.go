package term_test

import (
	"fmt"

	"quaestor/term"
)

// ExampleOf is README's: a digest tells what it is made of.
func ExampleOf() {
	leaf := term.Leaf(1, []byte("a"))
	d := term.Of(2, []byte(leaf), []byte("bc"))

	tag, parts, ok := term.Open(d)
	fmt.Println(tag, len(parts), string(parts[0]) == string(leaf), string(parts[1]), ok)

	_, _, ok = term.Open(d + "x")
	fmt.Println(ok)
	// Output:
	// 2 2 true bc true
	// false
}
