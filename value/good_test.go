package value_test

import (
	"math"
	"slices"
	"strings"
	"testing"

	"quaestor/api"
	"quaestor/value"
)

// theNaN is the one NaN that may be answered.
const theNaN = 0x7ff8000000000001

func integer(n int64) api.Value { return api.Value{Kind: api.KindInt, Int: n} }

func truth(x bool) api.Value { return api.Value{Kind: api.KindBool, Bool: x} }

func text(s string) api.Value { return api.Value{Kind: api.KindText, Text: s} }

func num(x float64) api.Value { return api.Value{Kind: api.KindNum, Num: x} }

// ofBits makes a float of its bits, as which every NaN can be had.
func ofBits(w uint64) api.Value { return num(math.Float64frombits(w)) }

func minusNought() float64 { return math.Copysign(0, -1) }

// nans are the bits of several NaNs: the NaN, others of either sign, quiet and not.
func nans() []uint64 {
	return []uint64{theNaN, 0x7ff8000000000000, 0xfff8000000000000, 0xfff8000000000001, 0x7ff0000000000001, 0xfff0000000000001, math.MaxUint64}
}

// identical tells whether two values have the same parts, to the bit: unlike Same it tells NaNs from one another.
func identical(a, b api.Value) bool {
	x, y := math.Float64bits(a.Num), math.Float64bits(b.Num)
	a.Num, b.Num = 0, 0
	return a == b && x == y
}

// goods are good values of all kinds, no two of them the same.
func goods() []api.Value {
	var l []api.Value
	for _, n := range []int64{math.MinInt64, math.MinInt64 + 1, -1 << 32, -2, -1, 0, 1, 2, 3, 1 << 31, 1<<53 + 1, math.MaxInt64 - 1, math.MaxInt64} {
		l = append(l, integer(n))
	}
	l = append(l, truth(false), truth(true))
	for _, s := range []string{"", "\x00", "\x00\x00", "A", "a", "a\x00", "ab", "b", "\x7f", "\x80", "\u00e9", "\xff", "\xff\xff", strings.Repeat("m", api.MaxText)} {
		l = append(l, text(s))
	}
	for _, x := range []float64{0, math.SmallestNonzeroFloat64, 0.1, 1, 1.5, math.MaxFloat64, math.Inf(1)} {
		l = append(l, num(x), num(-x)) // of 0, too: x is no constant
	}
	return append(l, ofBits(theNaN))
}

// bads are values that are not good, of each kind and of others.
func bads() []api.Value {
	l := []api.Value{
		{},
		{Int: 1}, {Bool: true}, {Text: "a"}, {Num: 1},
		{Kind: -1}, {Kind: 5}, {Kind: 5, Int: 1}, {Kind: math.MaxInt}, {Kind: math.MinInt}, {Kind: 1 << 32}, {Kind: 1<<32 + 1},
		{Kind: api.KindText, Text: strings.Repeat("m", api.MaxText+1)},
		{Kind: api.KindText, Text: strings.Repeat("\u00e9", api.MaxText/2+1)},
		{Kind: api.KindInt, Int: 1, Text: strings.Repeat("m", api.MaxText+1)},
	}
	for kind := api.KindInt; kind <= api.KindNum; kind++ {
		for _, foreign := range []api.Value{integer(1), integer(math.MinInt64), truth(true), text("a"), text("\x00"), num(1), num(minusNought()), ofBits(theNaN)} {
			if foreign.Kind != kind {
				foreign.Kind = kind
				l = append(l, foreign)
			}
		}
	}
	return l
}

// TestGood is of promise 4.1: the four kinds with nothing of another one, and texts of at most MaxText bytes.
func TestGood(t *testing.T) {
	for _, v := range goods() {
		if !value.Good(v) {
			t.Errorf("%#v is not good", v)
		}
	}
	for _, w := range nans() {
		if !value.Good(ofBits(w)) {
			t.Errorf("the float of bits %x is not good", w)
		}
	}
	for _, v := range bads() {
		if value.Good(v) {
			t.Errorf("%#v is good", v)
		}
	}
}

// TestFits is of promise 4.1: which error a value has for a field.
func TestFits(t *testing.T) {
	enum := []string{"red", "", "blue", "red"}
	for _, x := range []struct {
		v    api.Value
		f    api.Field
		want api.Errno
	}{
		{integer(7), api.Field{Kind: api.KindInt}, api.OK},
		{truth(false), api.Field{Kind: api.KindBool}, api.OK},
		{text("green"), api.Field{Kind: api.KindText}, api.OK},
		{text(""), api.Field{Kind: api.KindText}, api.OK},
		{ofBits(theNaN), api.Field{Kind: api.KindNum}, api.OK},
		{ofBits(math.MaxUint64), api.Field{Kind: api.KindNum}, api.OK},
		{text("green"), api.Field{Name: "x", Kind: api.KindText, Enum: []string{}, Init: integer(3)}, api.OK},

		{integer(7), api.Field{Kind: api.KindNum}, api.ErrType},
		{num(7), api.Field{Kind: api.KindInt}, api.ErrType},
		{text("red"), api.Field{Kind: api.KindBool, Enum: enum}, api.ErrType},
		{integer(7), api.Field{Kind: api.KindText, Enum: enum}, api.ErrType},
		{integer(7), api.Field{}, api.ErrType},

		{text("red"), api.Field{Kind: api.KindText, Enum: enum}, api.OK},
		{text("blue"), api.Field{Kind: api.KindText, Enum: enum}, api.OK},
		{text(""), api.Field{Kind: api.KindText, Enum: enum}, api.OK},
		{text("green"), api.Field{Kind: api.KindText, Enum: enum}, api.ErrField},
		{text("re"), api.Field{Kind: api.KindText, Enum: enum}, api.ErrField},
		{text("redd"), api.Field{Kind: api.KindText, Enum: enum}, api.ErrField},
		{text("Red"), api.Field{Kind: api.KindText, Enum: enum}, api.ErrField},
		{text(""), api.Field{Kind: api.KindText, Enum: []string{"red"}}, api.ErrField},
		{text("red"), api.Field{Kind: api.KindText, Enum: []string{""}}, api.ErrField},

		{integer(7), api.Field{Kind: api.KindInt, Enum: enum}, api.OK},
		{integer(7), api.Field{Kind: api.KindInt, Enum: []string{"red"}}, api.OK},
		{truth(true), api.Field{Kind: api.KindBool, Enum: []string{"red"}}, api.OK},
		{num(7), api.Field{Kind: api.KindNum, Enum: []string{"red"}}, api.OK},

		{text(strings.Repeat("m", api.MaxText+1)), api.Field{Kind: api.KindText, Enum: []string{"m", strings.Repeat("m", api.MaxText+1)}}, api.ErrType},
		{api.Value{Kind: api.KindText, Text: "green", Int: 1}, api.Field{Kind: api.KindText, Enum: enum}, api.ErrType},
	} {
		if got := value.Fits(x.v, x.f); got != x.want {
			t.Errorf("%#v for %#v: error %d, want %d", x.v, x.f, got, x.want)
		}
	}
	if !slices.Equal(enum, []string{"red", "", "blue", "red"}) {
		t.Errorf("Fits changed the field's texts: %q", enum)
	}
}

// TestFitsBad is of promise 4.1: what is not good fits no field, even of its own kind.
func TestFitsBad(t *testing.T) {
	for _, v := range bads() {
		for _, f := range []api.Field{{Kind: v.Kind}, {Kind: v.Kind, Enum: []string{v.Text}}, {Kind: v.Kind, Init: v}} {
			if got := value.Fits(v, f); got != api.ErrType {
				t.Errorf("%#v for %#v: error %d", v, f, got)
			}
		}
	}
}

// TestSame is of promise 4.1: each value is the same as itself alone, whether it is good or not.
func TestSame(t *testing.T) {
	l := append(goods(), bads()...)
	for _, a := range l {
		for _, b := range l {
			if got, want := value.Same(a, b), identical(a, b); got != want {
				t.Errorf("%#v, %#v: %v", a, b, got)
			}
		}
	}
}

// TestSameParts is of promise 4.1: two that differ in one part, of their kind or not, are not the same.
func TestSameParts(t *testing.T) {
	for kind := -1; kind <= 5; kind++ {
		v := api.Value{Kind: kind, Int: 2, Bool: true, Text: "x", Num: 3}
		others := []api.Value{v, v, v, v, v, v}
		others[0].Kind++
		others[1].Int++
		others[2].Bool = false
		others[3].Text = "X"
		others[4].Num = 4
		others[5].Num = math.NaN()
		if !value.Same(v, v) {
			t.Errorf("%#v is not the same as itself", v)
		}
		for _, w := range others {
			if value.Same(v, w) || value.Same(w, v) {
				t.Errorf("%#v is the same as %#v", v, w)
			}
		}
		nought, below := api.Value{Kind: kind}, api.Value{Kind: kind, Num: minusNought()}
		if value.Same(nought, below) || value.Same(below, nought) {
			t.Errorf("kind %d: 0 is the same as -0", kind)
		}
	}
}

// TestSameNaN is of promise 4.1: every NaN counts as the NaN, in values of other kinds, too.
func TestSameNaN(t *testing.T) {
	for kind := range 6 {
		for _, x := range nans() {
			for _, y := range nans() {
				a, b := ofBits(x), ofBits(y)
				a.Kind, b.Kind = kind, kind
				if !value.Same(a, b) {
					t.Errorf("kind %d: %x is not the same as %x", kind, x, y)
				}
			}
			if a := ofBits(x); value.Same(a, num(math.Inf(1))) || value.Same(a, num(math.Inf(-1))) || value.Same(num(0), a) {
				t.Errorf("%x is the same as a number", x)
			}
		}
	}
}
