package value_test

import (
	"fmt"
	"math"

	"quaestor/api"
	"quaestor/value"
	"quaestor/wire"
)

// ExampleReckon is README's: ints that go over and what is divided by nought are errors; floats are what floats are.
func ExampleReckon() {
	one := api.Value{Kind: api.KindInt, Int: 1}
	nought := api.Value{Kind: api.KindInt}
	nan := api.Value{Kind: api.KindNum, Num: math.NaN()}

	v, err := value.Reckon(api.OpAdd, one, one)
	fmt.Println(v.Int, err == api.OK)
	_, err = value.Reckon(api.OpDiv, one, nought)
	fmt.Println(err == api.ErrZero)
	_, err = value.Reckon(api.OpAdd, one, nan)
	fmt.Println(err == api.ErrType)

	equal, _ := value.Equal(nan, nan)
	fmt.Println(equal, value.Same(nan, nan))

	v, err = value.Get(wire.New(value.Put(nil, one)))
	fmt.Println(v.Int, err == api.OK)
	// Output:
	// 2 true
	// true
	// true
	// false true
	// 1 true
}
