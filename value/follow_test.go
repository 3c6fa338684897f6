package value_test

import (
	"math"
	"math/rand"
	"slices"
	"testing"

	"quaestor/api"
	"quaestor/value"
	"quaestor/wire"
)

// TestOrderIsTotal is of promise 4.6: of each two values one is ahead, or they are the same; what is ahead of one is ahead of all behind that.
func TestOrderIsTotal(t *testing.T) {
	l := goods()
	for _, a := range l {
		for _, b := range l {
			if value.Order(a, b) != -value.Order(b, a) || (value.Order(a, b) == 0) != value.Same(a, b) {
				t.Errorf("%#v, %#v: %d, the other way %d, same %v", a, b, value.Order(a, b), value.Order(b, a), value.Same(a, b))
			}
			for _, c := range l {
				if value.Order(a, b) <= 0 && value.Order(b, c) <= 0 && value.Order(a, c) > 0 {
					t.Errorf("%#v, %#v, %#v do not stand in order", a, b, c)
				}
			}
		}
	}
}

// TestOrderPutsInOrder is of promise 4.6: values in whatever order they came stand in one when they are sorted.
func TestOrderPutsInOrder(t *testing.T) {
	dice := rand.New(rand.NewSource(6))
	want := rising()
	for range 50 {
		l := rising()
		dice.Shuffle(len(l), func(i, j int) { l[i], l[j] = l[j], l[i] })
		slices.SortFunc(l, value.Order)
		if !slices.EqualFunc(l, want, identical) {
			t.Fatalf("%#v", l)
		}
	}
}

// TestPutIsGot is of promise 4.6: of rows of three, each is got as it was put, and nothing is left.
func TestPutIsGot(t *testing.T) {
	for _, a := range goods() {
		for _, b := range goods() {
			row := []api.Value{a, b, a}
			var bytes []byte
			for _, v := range row {
				bytes = value.Put(bytes, v)
			}
			r := wire.New(bytes)
			for i, v := range row {
				if got, err := value.Get(r); !identical(got, v) || err != api.OK {
					t.Fatalf("%d of %#v: %#v, error %d", i, row, got, err)
				}
			}
			if r.Left() != 0 {
				t.Fatalf("%#v: left %d", row, r.Left())
			}
		}
	}
	for _, w := range nans() {
		if got, err := value.Get(wire.New(value.Put(nil, ofBits(w)))); !identical(got, ofBits(theNaN)) || err != api.OK {
			t.Errorf("%x: %#v, error %d", w, got, err)
		}
	}
}

// TestAddedIsTakenAway is of promise 4.6: where neither goes over.
func TestAddedIsTakenAway(t *testing.T) {
	for _, a := range ints() {
		for _, b := range ints() {
			sum, err := value.Reckon(api.OpAdd, integer(a), integer(b))
			if err != api.OK {
				continue
			}
			if got, err := value.Reckon(api.OpSub, sum, integer(b)); got != integer(a) || err != api.OK {
				t.Errorf("%d and %d: %#v, error %d", a, b, got, err)
			}
		}
	}
}

// TestQuotientAndRest is of promise 4.6: a quotient's product and a rest below the divisor, of the number's sign, are the number.
func TestQuotientAndRest(t *testing.T) {
	for _, a := range ints() {
		for _, b := range ints() {
			q, err := value.Reckon(api.OpDiv, integer(a), integer(b))
			if err != api.OK {
				continue
			}
			product, err := value.Reckon(api.OpMul, q, integer(b))
			if err != api.OK {
				t.Fatalf("%d, %d: the product has error %d", a, b, err)
			}
			rest, err := value.Reckon(api.OpSub, integer(a), product)
			if err != api.OK || rest.Int != 0 && (rest.Int < 0) != (a < 0) || !below(rest.Int, b) {
				t.Errorf("%d, %d: quotient %d, rest %d, error %d", a, b, q.Int, rest.Int, err)
			}
			if got, err := value.Reckon(api.OpAdd, product, rest); got != integer(a) || err != api.OK {
				t.Errorf("%d, %d: %#v, error %d", a, b, got, err)
			}
		}
	}
}

// below tells whether a rest is nearer to nought than a divisor, the least int, too.
func below(rest, divisor int64) bool {
	if divisor == math.MinInt64 {
		return rest != divisor
	}
	return max(rest, -rest) < max(divisor, -divisor)
}

// TestAnswersStay is of rule R5: what a call answers hangs on its arguments alone, not on what was asked ahead.
func TestAnswersStay(t *testing.T) {
	ask := func() []any {
		var l []any
		for _, a := range append(goods(), bads()...) {
			for _, b := range goods() {
				equal, errEqual := value.Equal(a, b)
				less, errLess := value.Less(a, b)
				l = append(l, value.Order(a, b), value.Same(a, b), equal, errEqual, less, errLess)
				for _, op := range ops() {
					v, err := value.Reckon(op, a, b)
					l = append(l, string(value.Put(nil, v)), err)
				}
			}
		}
		return l
	}
	if !slices.Equal(ask(), ask()) {
		t.Error("asked twice, there are two answers")
	}
}
