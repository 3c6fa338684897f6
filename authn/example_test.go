package authn_test

import (
	"fmt"

	"quaestor/api"
	"quaestor/authn"
)

// ExampleAuthority is README's: what was signed by one is not signed by another one.
func ExampleAuthority() {
	a := authn.New(1, 2)
	fmt.Println(a.N(), a.Quorum(), a.Weak(), a.Primary(6), a.Org(1001))

	e, err := a.Sign(0, []byte("x"))
	fmt.Println(err == api.OK, a.Check(e) == api.OK)

	e.Signer = 1
	fmt.Println(a.Check(e) == api.ErrSigned)

	_, err = a.Sign(4, []byte("x"))
	fmt.Println(err == api.ErrSigner)
	// Output:
	// 4 3 2 2 1
	// true true
	// true
	// true
}
