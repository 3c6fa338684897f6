package merkle_test

import (
	"fmt"

	"quaestor/api"
	"quaestor/merkle"
	"quaestor/term"
)

// ExampleCheck is README's: a path proves one leaf, at one place.
func ExampleCheck() {
	leaves := [][]byte{[]byte("a"), []byte("b"), []byte("c")}
	root := merkle.Root(leaves)

	path, err := merkle.Path(leaves, 1)
	fmt.Println(len(path), path[0].Left, path[1].Left, err == api.OK)
	_, err = merkle.Path(leaves, 3)
	fmt.Println(err == api.ErrRange)

	fmt.Println(merkle.Check(root, []byte("b"), 1, 3, path) == api.OK)
	fmt.Println(merkle.Check(root, []byte("x"), 1, 3, path) == api.ErrPath)
	fmt.Println(merkle.Check(root, []byte("b"), 0, 3, path) == api.ErrPath)
	fmt.Println(merkle.Check(root, []byte("b"), 3, 3, path) == api.ErrRange)
	// Output:
	// 2 true false true
	// true
	// true
	// true
	// true
	// true
}

// ExampleRoot has the examples of the chapter.
func ExampleRoot() {
	leaves := [][]byte{[]byte("a"), []byte("b"), []byte("c")}
	a, b, c := term.Leaf(2, leaves[0]), term.Leaf(2, leaves[1]), term.Leaf(2, leaves[2])
	root := merkle.Root(leaves)
	fmt.Println(root == term.Pair(3, term.Pair(3, a, b), c))

	path, _ := merkle.Path(leaves, 2)
	fmt.Println(len(path), path[0].Left)

	path, _ = merkle.Path(leaves, 1)
	fmt.Println(merkle.Check(root, leaves[1], 0, 3, path) == api.ErrPath)
	// Output:
	// true
	// 1 true
	// true
}
