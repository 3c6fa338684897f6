package value_test

import (
	"cmp"
	"math"
	"strings"
	"testing"

	"quaestor/api"
	"quaestor/value"
)

// relation is what Equal and Less tell.
type relation struct {
	equal, less bool
}

func relate[T cmp.Ordered](x, y T) relation {
	return relation{x == y, x < y}
}

// check asks of two good values of one kind what Equal and Less tell of them; truths have no less.
func check(t *testing.T, a, b api.Value, want relation) {
	t.Helper()
	if got, err := value.Equal(a, b); got != want.equal || err != api.OK {
		t.Errorf("Equal of %#v, %#v: %v, error %d", a, b, got, err)
	}
	if a.Kind == api.KindBool {
		return
	}
	if got, err := value.Less(a, b); got != want.less || err != api.OK {
		t.Errorf("Less of %#v, %#v: %v, error %d", a, b, got, err)
	}
}

// TestEqualAndLess is of promise 4.3: ints, truths, texts and floats as they are.
func TestEqualAndLess(t *testing.T) {
	for _, a := range goods() {
		for _, b := range goods() {
			switch {
			case a.Kind != b.Kind:
			case a.Kind == api.KindInt:
				check(t, a, b, relate(a.Int, b.Int))
			case a.Kind == api.KindBool:
				check(t, a, b, relation{equal: a.Bool == b.Bool})
			case a.Kind == api.KindText:
				check(t, a, b, relate(a.Text, b.Text))
			case a.Kind == api.KindNum:
				check(t, a, b, relate(a.Num, b.Num))
			}
		}
	}
}

// TestEqualAndLessOfFloats is of promise 4.3: the NaN is equal to nothing and neither below nor above anything; -0 is equal to 0, and not below it.
func TestEqualAndLessOfFloats(t *testing.T) {
	for _, x := range nans() {
		for _, y := range nans() {
			check(t, ofBits(x), ofBits(y), relation{})
		}
		for _, y := range []float64{math.Inf(-1), -1, 0, 1, math.Inf(1)} {
			check(t, ofBits(x), num(y), relation{})
			check(t, num(y), ofBits(x), relation{})
		}
	}
	check(t, num(minusNought()), num(0), relation{equal: true})
	check(t, num(0), num(minusNought()), relation{equal: true})
	check(t, num(minusNought()), num(minusNought()), relation{equal: true})
	check(t, num(math.Inf(1)), num(math.Inf(1)), relation{equal: true})
	check(t, num(math.Inf(-1)), num(math.Inf(-1)), relation{equal: true})
	check(t, num(math.Inf(-1)), num(-math.MaxFloat64), relation{less: true})
	check(t, num(math.MaxFloat64), num(math.Inf(1)), relation{less: true})
	check(t, num(-math.SmallestNonzeroFloat64), num(minusNought()), relation{less: true})
}

// TestEqualAndLessOfTexts is of promise 4.3: texts are held against each other byte by byte.
func TestEqualAndLessOfTexts(t *testing.T) {
	check(t, text("10"), text("9"), relation{less: true})
	check(t, text("Z"), text("a"), relation{less: true})
	check(t, text("a"), text("a\x00"), relation{less: true})
	check(t, text("\x7f"), text("\xff"), relation{less: true})
	check(t, text("e\u0301"), text("\u00e9"), relation{less: true}) // two ways to write one letter
	check(t, text(strings.Repeat("m", api.MaxText)), text(strings.Repeat("m", api.MaxText)), relation{equal: true})
}

// notReckoned asks that Equal and Less tell ErrType of two.
func notReckoned(t *testing.T, a, b api.Value) {
	t.Helper()
	if got, err := value.Equal(a, b); got || err != api.ErrType {
		t.Errorf("Equal of %#v, %#v: %v, error %d", a, b, got, err)
	}
	if got, err := value.Less(a, b); got || err != api.ErrType {
		t.Errorf("Less of %#v, %#v: %v, error %d", a, b, got, err)
	}
}

// TestEqualAndLessOfOthers is of promise 4.3: what is not good, or of two kinds, is ErrType.
func TestEqualAndLessOfOthers(t *testing.T) {
	for _, a := range bads() {
		notReckoned(t, a, a)
		for _, b := range append(goods(), bads()...) {
			notReckoned(t, a, b)
			notReckoned(t, b, a)
		}
	}
	for _, a := range goods() {
		for _, b := range goods() {
			if a.Kind != b.Kind {
				notReckoned(t, a, b)
			}
		}
	}
}

// TestLessOfTruths is of promise 4.3: truths are not for Less.
func TestLessOfTruths(t *testing.T) {
	for _, a := range []bool{false, true} {
		for _, b := range []bool{false, true} {
			if got, err := value.Less(truth(a), truth(b)); got || err != api.ErrType {
				t.Errorf("%v, %v: %v, error %d", a, b, got, err)
			}
		}
	}
}
