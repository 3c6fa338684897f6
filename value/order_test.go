package value_test

import (
	"math"
	"strings"
	"testing"

	"quaestor/api"
	"quaestor/value"
)

// rising are values as they are ordered, none of them as high as the one behind it; not all of them are good.
func rising() []api.Value {
	return []api.Value{
		{Kind: math.MinInt}, {Kind: -1}, {},
		integer(math.MinInt64), integer(math.MinInt64 + 1), integer(-1 << 40), integer(-1), integer(0), integer(1), integer(1 << 40), integer(math.MaxInt64 - 1), integer(math.MaxInt64),
		truth(false), truth(true),
		text(""), text("\x00"), text("\x00\x00"), text("\x01"), text("10"), text("9"), text("A"), text("B"), text("a"), text("a\x00"), text("aa"), text("ab"), text("b"), text("\x7f"), text("\x80"), text("\u00e9"), text("\uffff"), text("\U0001F600"), text("\xff"), text(strings.Repeat("\xff", 2*api.MaxText)),
		ofBits(theNaN), num(math.Inf(-1)), num(-math.MaxFloat64), num(-2), num(-1), num(-math.SmallestNonzeroFloat64 * 2), num(-math.SmallestNonzeroFloat64), num(minusNought()),
		num(0), num(math.SmallestNonzeroFloat64), num(math.SmallestNonzeroFloat64 * 2), num(0x1p-1022), num(1), num(math.Nextafter(1, 2)), num(2), num(math.MaxFloat64), num(math.Inf(1)),
		{Kind: 5}, {Kind: 6}, {Kind: math.MaxInt},
	}
}

// sign is -1, 0, 1.
func sign(n int) int {
	return min(max(n, -1), 1)
}

// TestOrder is of promise 4.2: of each two the place tells.
func TestOrder(t *testing.T) {
	l := rising()
	for i, a := range l {
		for j, b := range l {
			if got := value.Order(a, b); got != sign(i-j) {
				t.Errorf("%#v, %#v: %d, want %d", a, b, got, sign(i-j))
			}
		}
	}
}

// TestOrderNaN is of promise 4.2: every NaN is ahead of all numbers, and none ahead of another one.
func TestOrderNaN(t *testing.T) {
	for _, x := range nans() {
		for _, y := range nans() {
			if got := value.Order(ofBits(x), ofBits(y)); got != 0 {
				t.Errorf("%x, %x: %d", x, y, got)
			}
		}
		for _, y := range []float64{math.Inf(-1), -1, minusNought(), 0, 1, math.Inf(1)} {
			if value.Order(ofBits(x), num(y)) != -1 || value.Order(num(y), ofBits(x)) != 1 {
				t.Errorf("%x is not ahead of %v", x, y)
			}
		}
	}
}

// TestOrderLooksAtNothingElse is of promise 4.2: parts of other kinds don't count, and none counts of another kind than the four.
func TestOrderLooksAtNothingElse(t *testing.T) {
	l := rising()
	for i, a := range l {
		for j, b := range l {
			full := func(v api.Value, n int) api.Value {
				x := api.Value{Kind: v.Kind, Int: int64(n), Bool: n > 0, Text: strings.Repeat("z", n+1), Num: float64(n)}
				switch v.Kind {
				case api.KindInt:
					x.Int = v.Int
				case api.KindBool:
					x.Bool = v.Bool
				case api.KindText:
					x.Text = v.Text
				case api.KindNum:
					x.Num = v.Num
				}
				return x
			}
			if got := value.Order(full(a, 0), full(b, 1)); got != sign(i-j) {
				t.Errorf("%#v, %#v: %d, want %d", full(a, 0), full(b, 1), got, sign(i-j))
			}
			if got := value.Order(full(a, 1), full(b, 0)); got != sign(i-j) {
				t.Errorf("%#v, %#v: %d, want %d", full(a, 1), full(b, 0), got, sign(i-j))
			}
		}
	}
}
