package expr_test

import (
	"math"
	"math/rand"
	"testing"

	"quaestor/api"
	"quaestor/expr"
	"quaestor/value"
	"quaestor/wire"
)

// plain reckons by the table, without giving up by a panic: each part hands its error on.
func plain(e api.Expr, fields []api.Field, values []api.Value) (api.Value, api.Errno) {
	switch e.Op {
	case api.OpConst:
		return e.Val, api.OK
	case api.OpField:
		for i, f := range fields {
			if f.Name == e.Name {
				return values[i], api.OK
			}
		}
	}
	a, err := plain(e.Kids[0], fields, values)
	if err != api.OK {
		return api.Value{}, err
	}
	switch {
	case e.Op == api.OpNeg:
		return value.Neg(a)
	case e.Op == api.OpNum:
		return value.Float(a)
	case e.Op == api.OpNot:
		return truth(!a.Bool), api.OK
	case e.Op == api.OpAnd && !a.Bool:
		return truth(false), api.OK
	case e.Op == api.OpOr && a.Bool:
		return truth(true), api.OK
	case e.Op == api.OpIf && !a.Bool:
		return plain(e.Kids[2], fields, values)
	}
	b, err := plain(e.Kids[1], fields, values)
	if err != api.OK {
		return api.Value{}, err
	}
	switch e.Op {
	case api.OpAnd, api.OpOr, api.OpIf:
		return b, api.OK
	case api.OpEq:
		x, err := value.Equal(a, b)
		return truth(x), err
	case api.OpLess:
		x, err := value.Less(a, b)
		return truth(x), err
	}
	return value.Reckon(e.Op, a, b)
}

// random makes expressions of dice: of the kind that is asked for, and for most of the time right.
type random struct {
	*rand.Rand
	odd int // one part of so many is anything
}

func (d random) value(kind int) api.Value {
	switch kind {
	case api.KindInt:
		return integer([]int64{0, 1, -1, 2, 3, math.MaxInt64, math.MinInt64}[d.Intn(7)])
	case api.KindBool:
		return truth(d.Intn(2) == 0)
	case api.KindText:
		return text([]string{"", "a", "ab", long(api.MaxText)}[d.Intn(4)])
	}
	return num([]float64{0, minusNought(), 1.5, math.Inf(1), math.MaxFloat64, math.NaN()}[d.Intn(6)])
}

func (d random) expr(kind, deep int) api.Expr {
	if d.odd > 0 && d.Intn(d.odd) == 0 {
		return d.anything(deep)
	}
	if deep <= 1 || d.Intn(4) == 0 {
		if d.Intn(2) == 0 {
			return field(letters[kind-1 : kind])
		}
		return constant(d.value(kind))
	}
	deep--
	if d.Intn(6) == 0 {
		return op(api.OpIf, d.expr(api.KindBool, deep), d.expr(kind, deep), d.expr(kind, deep))
	}
	switch kind {
	case api.KindInt:
		return d.reckoning(kind, deep)
	case api.KindNum:
		if d.Intn(4) == 0 {
			return op(api.OpNum, d.expr(api.KindInt, deep))
		}
		return d.reckoning(kind, deep)
	case api.KindBool:
		return d.truth(deep)
	}
	return constant(d.value(kind))
}

func (d random) reckoning(kind, deep int) api.Expr {
	l := []int{api.OpNeg, api.OpAdd, api.OpSub, api.OpMul, api.OpDiv, api.OpMin, api.OpMax}
	o := l[d.Intn(len(l))]
	if o == api.OpNeg {
		return op(o, d.expr(kind, deep))
	}
	return op(o, d.expr(kind, deep), d.expr(kind, deep))
}

func (d random) truth(deep int) api.Expr {
	switch o := []int{api.OpEq, api.OpLess, api.OpAnd, api.OpOr, api.OpNot}[d.Intn(5)]; o {
	case api.OpNot:
		return op(o, d.expr(api.KindBool, deep))
	case api.OpAnd, api.OpOr:
		return op(o, d.expr(api.KindBool, deep), d.expr(api.KindBool, deep))
	default:
		kind := []int{api.KindInt, api.KindText, api.KindNum}[d.Intn(3)]
		return op(o, d.expr(kind, deep), d.expr(kind, deep))
	}
}

func (d random) anything(deep int) api.Expr {
	e := api.Expr{Op: d.Intn(19) - 1}
	for range d.Intn(4) {
		if deep > 1 {
			e.Kids = append(e.Kids, d.expr(1+d.Intn(4), deep-1))
		}
	}
	if d.Intn(2) == 0 {
		e.Name = []string{"i", "b", "t", "x", "none"}[d.Intn(5)]
	}
	if d.Intn(2) == 0 {
		e.Val = d.value(1 + d.Intn(4))
		e.Val.Kind += d.Intn(2) * d.Intn(3)
	}
	return e
}

// TestTellsItsKind is of promise 5.4: what Check takes tells a value of that kind, or goes over, or divides by nought; and, of 5.2, just what the table says.
func TestTellsItsKind(t *testing.T) {
	met := map[api.Errno]int{}
	for _, odd := range []int{0, 30, 4} {
		d := random{rand.New(rand.NewSource(5)), odd}
		for range 20000 {
			e := d.expr(1+d.Intn(4), api.MaxDeep)
			values := []api.Value{d.value(1), d.value(2), d.value(3), d.value(4)}
			kind, wrong := expr.Check(e, fourFields())
			got, err := expr.Eval(e, fourFields(), values)
			met[err]++
			if wrong != api.OK {
				if kind != 0 || err != wrong || got != (api.Value{}) {
					t.Fatalf("%v: kind %d, error %d; %#v, error %d", e, kind, wrong, got, err)
				}
				continue
			}
			want, wantErr := plain(e, fourFields(), values)
			if err != wantErr || !value.Same(got, want) {
				t.Fatalf("%v over %v: %#v, error %d, want %#v, %d", e, values, got, err, want, wantErr)
			}
			switch {
			case err == api.OK && value.Good(got) && got.Kind == kind:
			case (err == api.ErrOver || err == api.ErrZero) && got == api.Value{}:
			default:
				t.Fatalf("%v, of kind %d: %#v, error %d", e, kind, got, err)
			}
		}
	}
	for _, err := range []api.Errno{api.OK, api.ErrArg, api.ErrType, api.ErrName, api.ErrDeep, api.ErrOver, api.ErrZero} {
		if met[err] < 100 {
			t.Errorf("error %d was met %d times alone", err, met[err])
		}
	}
}

// TestPutIsGot is of promise 5.4: of rows of two, each is got as it was put, and nothing is left.
func TestPutIsGot(t *testing.T) {
	d := random{rand.New(rand.NewSource(7)), 0}
	for range 5000 {
		var row []byte
		var l []api.Expr
		for len(l) < 2 {
			e := d.expr(1+d.Intn(4), api.MaxDeep)
			if _, err := expr.Check(e, fourFields()); err == api.OK {
				l = append(l, e)
				row = expr.Put(row, e)
			}
		}
		r := wire.New(row)
		for _, e := range l {
			if got, err := expr.Get(r); !alike(got, e) || err != api.OK {
				t.Fatalf("%v: %v, error %d", e, got, err)
			}
		}
		if r.Left() != 0 {
			t.Fatalf("%v: left %d", l, r.Left())
		}
	}
}
