package contract_test

import (
	"bytes"
	"math"
	"math/rand"
	"testing"

	"quaestor/api"
	"quaestor/contract"
	"quaestor/expr"
	"quaestor/value"
	"quaestor/wire"
)

// random makes contracts of dice.
type random struct{ *rand.Rand }

func (d random) value(kind int) api.Value {
	switch kind {
	case api.KindInt:
		return integer([]int64{0, 1, -1, 2, math.MaxInt64, math.MinInt64}[d.Intn(6)])
	case api.KindBool:
		return truth(d.Intn(2) == 0)
	case api.KindText:
		return text([]string{"", "a", "ab", long(api.MaxText, "z")}[d.Intn(4)])
	}
	return num([]float64{0, math.Copysign(0, -1), 1.5, math.Inf(1), math.NaN()}[d.Intn(5)])
}

// fitting is a value that a field may have.
func (d random) fitting(f api.Field) api.Value {
	if len(f.Enum) > 0 {
		return text(f.Enum[d.Intn(len(f.Enum))])
	}
	return d.value(f.Kind)
}

// expr makes an expression that tells a kind, but for one of so many.
func (d random) expr(kind int, fields []api.Field, deep int) api.Expr {
	if d.Intn(200) == 0 {
		kind = 1 + d.Intn(4)
	}
	if deep <= 1 || d.Intn(3) == 0 {
		if f := fields[d.Intn(len(fields))]; f.Kind == kind {
			return field(f.Name)
		}
		return constant(d.value(kind))
	}
	deep--
	kid := func(kind int) api.Expr { return d.expr(kind, fields, deep) }
	switch kind {
	case api.KindBool:
		other := 1 + d.Intn(4)
		return []api.Expr{
			op(api.OpEq, kid(other), kid(other)), op(api.OpLess, kid(api.KindText), kid(api.KindText)),
			op(api.OpAnd, kid(kind), kid(kind)), op(api.OpNot, kid(kind)),
		}[d.Intn(4)]
	case api.KindText:
		return op(api.OpIf, kid(api.KindBool), kid(kind), kid(kind))
	case api.KindNum:
		if d.Intn(2) == 0 {
			return op(api.OpNum, kid(api.KindInt))
		}
	}
	return op([]int{api.OpAdd, api.OpSub, api.OpMul, api.OpDiv, api.OpMin, api.OpMax}[d.Intn(6)], kid(kind), kid(kind))
}

// contract makes one that is right for most of the time.
func (d random) contract() api.Contract {
	c := api.Contract{Name: long(1+d.Intn(3), "c")}
	for i := range 1 + d.Intn(api.MaxFields) {
		f := api.Field{Name: "abcdef"[i : i+1], Kind: 1 + d.Intn(4)}
		if f.Kind == api.KindText {
			f.Enum = []string{"", "a", "ab", "x"}[:d.Intn(5)]
		}
		f.Init = d.fitting(f)
		c.Fields = append(c.Fields, f)
	}
	for i := range 1 + d.Intn(api.MaxStages) {
		s := api.Stage{Name: "stuvwx"[i : i+1]}
		for org := range api.Orgs {
			if d.Intn(2) == 0 {
				s.Orgs = append(s.Orgs, org)
			}
		}
		s.Need = d.Intn(len(s.Orgs) + 1)
		c.Stages = append(c.Stages, s)
	}
	for i := range d.Intn(api.MaxMoves + 1) {
		m := api.Move{Name: "ghijklmn"[i : i+1], From: d.Intn(len(c.Stages)), To: d.Intn(len(c.Stages)), Org: d.Intn(api.Orgs+1) - 1}
		m.Guard = d.expr(api.KindBool, c.Fields, 4)
		for _, i := range d.Perm(len(c.Fields))[:d.Intn(min(len(c.Fields), api.MaxEffects)+1)] {
			m.Effects = append(m.Effects, api.Effect{Field: c.Fields[i].Name, Expr: d.expr(c.Fields[i].Kind, c.Fields, 4)})
		}
		c.Moves = append(c.Moves, m)
	}
	return c
}

// TestPutIsGot is of promise 6.3: of rows of two, each is got as it was put, and nothing is left.
func TestPutIsGot(t *testing.T) {
	d := random{rand.New(rand.NewSource(6))}
	met := 0
	for range 2000 {
		one, two := d.contract(), d.contract()
		if contract.Check(one) != api.OK || contract.Check(two) != api.OK {
			continue
		}
		met++
		r := wire.New(contract.Put(contract.Put(nil, one), two))
		for _, c := range []api.Contract{one, two} {
			if got, err := contract.Get(r); !alike(got, c) || err != api.OK {
				t.Fatalf("%v: %v, error %d", c, got, err)
			}
		}
		if r.Left() != 0 {
			t.Fatalf("left %d", r.Left())
		}
	}
	if met < 500 {
		t.Errorf("%d pairs alone were right", met)
	}
}

// TestSameBytes is of promise 6.3: what differs in one thing alone has other bytes, and what differs in nothing the same.
func TestSameBytes(t *testing.T) {
	l := append(rights(), api.Contract{Name: "s", Stages: []api.Stage{{Name: "c"}}})
	for _, y := range []func(c *api.Contract){
		func(c *api.Contract) { c.Name = "loam" },
		func(c *api.Contract) { c.Fields[2].Name = "paie" },
		func(c *api.Contract) { c.Fields[0].Enum = []string{"old", "new"} },
		func(c *api.Contract) { c.Fields[0].Init = text("old") },
		func(c *api.Contract) { c.Fields[1].Init = integer(2) },
		func(c *api.Contract) { c.Fields[2].Init = truth(true) },
		func(c *api.Contract) { c.Fields[3].Init = num(0) },
		func(c *api.Contract) { c.Fields[3].Init = num(math.Copysign(0, -1)) },
		func(c *api.Contract) { c.Fields[2], c.Fields[3] = c.Fields[3], c.Fields[2] },
		func(c *api.Contract) { c.Fields = c.Fields[:3] },
		func(c *api.Contract) { c.Stages[2].Name = "enc" },
		func(c *api.Contract) { c.Stages[2].Need = 2 },
		func(c *api.Contract) { c.Stages[2].Orgs = []int{0, 1} },
		func(c *api.Contract) { c.Stages[2].Orgs = []int{0} },
		func(c *api.Contract) { c.Stages = c.Stages[:2] },
		func(c *api.Contract) { c.Moves[0].Name = "granu" },
		func(c *api.Contract) { c.Moves[0].From = 2 },
		func(c *api.Contract) { c.Moves[0].To = 2 },
		func(c *api.Contract) { c.Moves[0].Org = 3 },
		func(c *api.Contract) { c.Moves[0].Guard = op(api.OpNot, yes()) },
		func(c *api.Contract) { c.Moves[0].Guard = field("paid") },
		func(c *api.Contract) { c.Moves[1].Effects = c.Moves[1].Effects[:1] },
		func(c *api.Contract) {
			c.Moves[1].Effects[0], c.Moves[1].Effects[1] = c.Moves[1].Effects[1], c.Moves[1].Effects[0]
		},
		func(c *api.Contract) { c.Moves[1].Effects[0].Expr = field("sum") },
		func(c *api.Contract) { c.Moves[0], c.Moves[1] = c.Moves[1], c.Moves[0] },
	} {
		c := loan()
		y(&c)
		if err := contract.Check(c); err != api.OK {
			t.Fatalf("error %d of %v", err, c)
		}
		l = append(l, c)
	}
	for i, a := range l {
		for j, b := range l {
			if same := bytes.Equal(contract.Put(nil, a), contract.Put(nil, b)); same != alike(a, b) {
				t.Errorf("%d, %d: same bytes %v: %v, %v", i, j, same, a, b)
			}
		}
	}
	odd := loan()
	odd.Fields[3].Init = num(math.Float64frombits(math.MaxUint64))
	nan := loan()
	nan.Fields[3].Init = num(math.NaN())
	if !bytes.Equal(contract.Put(nil, odd), contract.Put(nil, nan)) {
		t.Error("every NaN is the NaN")
	}
}

// TestNeverOfAWrongKind is of promise 6.3: over the first values, and whatever fits, guards tell truths and effects what their fields have, or they go over, or divide by nought.
func TestNeverOfAWrongKind(t *testing.T) {
	d := random{rand.New(rand.NewSource(66))}
	met := map[api.Errno]int{}
	for range 3000 {
		c := d.contract()
		if contract.Check(c) != api.OK {
			continue
		}
		for round := range 4 {
			var values []api.Value
			for _, f := range c.Fields {
				v := f.Init
				if round > 0 {
					v = d.fitting(f)
				}
				if err := value.Fits(v, f); err != api.OK {
					t.Fatalf("%v does not fit %v: error %d", v, f, err)
				}
				values = append(values, v)
			}
			for _, m := range c.Moves {
				ask(t, met, m.Guard, c, values, api.KindBool)
				for _, e := range m.Effects {
					ask(t, met, e.Expr, c, values, c.Fields[contract.Field(c, e.Field)].Kind)
				}
			}
		}
	}
	if met[api.OK] < 1000 || met[api.ErrOver] < 100 || met[api.ErrZero] < 100 || len(met) != 3 {
		t.Errorf("met: %v", met)
	}
}

// ask reckons an expression out, which must be of a kind.
func ask(t *testing.T, met map[api.Errno]int, e api.Expr, c api.Contract, values []api.Value, kind int) {
	t.Helper()
	v, err := expr.Eval(e, c.Fields, values)
	met[err]++
	if err == api.OK && (v.Kind != kind || !value.Good(v)) || err != api.OK && err != api.ErrOver && err != api.ErrZero {
		t.Fatalf("%v over %v: %v, error %d, want kind %d", e, values, v, err, kind)
	}
}
