package contract_test

import (
	"fmt"
	"math"
	"slices"
	"testing"

	"quaestor/api"
	"quaestor/contract"
)

// wrong is what is done to a contract that makes it wrong.
type wrong struct {
	what string
	do   func(c *api.Contract)
}

// names that are none.
func noNames() []string { return []string{"", long(api.MaxName+1, "x"), long(1000, "x")} }

// wrongNames are wrong in their name.
func wrongNames() []wrong {
	var l []wrong
	for _, name := range noNames() {
		l = append(l, wrong{fmt.Sprintf("name %q", name), func(c *api.Contract) { c.Name = name }})
	}
	return l
}

// wrongFields are wrong in a field of loan.
func wrongFields() []wrong {
	l := []wrong{
		{"too many", func(c *api.Contract) {
			for i := len(c.Fields); i <= api.MaxFields; i++ {
				c.Fields = append(c.Fields, api.Field{Name: long(api.MaxName, "klmnopq"[i:i+1]), Kind: api.KindInt, Init: integer(0)})
			}
		}},
		{"far too many", func(c *api.Contract) { c.Fields = make([]api.Field, 1000) }},
		{"two neighbours of one name", func(c *api.Contract) { c.Fields[1].Name = c.Fields[0].Name }},
		{"the last as the first", func(c *api.Contract) { c.Fields[3].Name = c.Fields[0].Name }},
		{"the last two", func(c *api.Contract) { c.Fields[3].Name = c.Fields[2].Name }},
		{"an int has a text", func(c *api.Contract) { c.Fields[1].Enum = []string{"-2"} }},
		{"a truth has a text", func(c *api.Contract) { c.Fields[2].Enum = []string{""} }},
		{"a float has texts", func(c *api.Contract) { c.Fields[3].Enum = []string{"a", "b"} }},
		{"too many texts", func(c *api.Contract) { c.Fields[0].Enum = []string{"new", "b", "c", "d", "e"} }},
		{"too long a text", func(c *api.Contract) { c.Fields[0].Enum[1] = long(api.MaxText+1, "x") }},
		{"a text twice", func(c *api.Contract) { c.Fields[0].Enum[1] = "new" }},
		{"a text twice, not the first", func(c *api.Contract) { c.Fields[0].Enum = []string{"new", "b", "c", "b"} }},
		{"no text twice", func(c *api.Contract) { c.Fields[0].Enum = []string{"new", "", ""} }},
		{"first value is none of the texts", func(c *api.Contract) { c.Fields[0].Init = text("ne") }},
		{"first value is none of the texts: none", func(c *api.Contract) { c.Fields[0].Init = text("") }},
		{"first value is too long", func(c *api.Contract) { c.Fields[0].Enum, c.Fields[0].Init = nil, text(long(api.MaxText+1, "x")) }},
	}
	for i := range 4 {
		for _, name := range noNames() {
			l = append(l, wrong{fmt.Sprintf("field %d name %q", i, name), func(c *api.Contract) { c.Fields[i].Name = name }})
		}
		for _, kind := range []int{0, -1, 5, math.MaxInt, math.MinInt, 1<<32 + c4(i), 1 + c4(i)%4} {
			l = append(l, wrong{fmt.Sprintf("field %d kind %d", i, kind), func(c *api.Contract) { c.Fields[i].Kind = kind }})
		}
		for _, kind := range []int{0, -1, 5, math.MaxInt} {
			l = append(l, wrong{fmt.Sprintf("field %d and its first value kind %d", i, kind), func(c *api.Contract) {
				c.Fields[i] = api.Field{Name: "z", Kind: kind, Init: api.Value{Kind: kind}}
			}})
		}
		l = append(l,
			wrong{fmt.Sprintf("field %d first value none", i), func(c *api.Contract) { c.Fields[i].Init = api.Value{} }},
			wrong{fmt.Sprintf("field %d first value of another kind", i), func(c *api.Contract) { c.Fields[i].Init.Kind = 1 + c.Fields[i].Kind%4 }},
		)
	}
	return l
}

// c4 is the kind of loan's field at a place.
func c4(i int) int { return loan().Fields[i].Kind }

// wrongStages are wrong in a stage of loan.
func wrongStages() []wrong {
	l := []wrong{
		{"none", func(c *api.Contract) { c.Stages = nil }},
		{"none, but not nil", func(c *api.Contract) { c.Stages = []api.Stage{} }},
		{"too many", func(c *api.Contract) {
			for i := len(c.Stages); i <= api.MaxStages; i++ {
				c.Stages = append(c.Stages, api.Stage{Name: long(api.MaxName, "klmnopq"[i:i+1])})
			}
		}},
		{"far too many", func(c *api.Contract) { c.Stages = make([]api.Stage, 1000) }},
		{"two neighbours of one name", func(c *api.Contract) { c.Stages[1].Name = c.Stages[0].Name }},
		{"the last as the first", func(c *api.Contract) { c.Stages[2].Name = c.Stages[0].Name }},
		{"the last two", func(c *api.Contract) { c.Stages[2].Name = c.Stages[1].Name }},
		{"far too many organizations", func(c *api.Contract) { c.Stages[1].Orgs = make([]int, 1000) }},
	}
	for _, orgs := range [][]int{{-1}, {api.Orgs}, {math.MinInt}, {math.MaxInt}, {-1, 1}, {1, 1}, {2, 1}, {0, 0, 1}, {0, 1, 1}, {0, 2, 1, 3}, {0, 1, 2, api.Orgs}, {1, math.MinInt}, {0, 1, 2, 3, 3}, {0, 1, 2, 3, 4}, {3, 0}} {
		for i := range 3 {
			l = append(l, wrong{fmt.Sprintf("stage %d organizations %v", i, orgs), func(c *api.Contract) { c.Stages[i].Orgs, c.Stages[i].Need = orgs, 0 }})
		}
	}
	for i, needs := range [][]int{{1, -1, math.MaxInt, math.MinInt}, {3, -1, math.MaxInt, 4}, {3, -1, math.MinInt}} {
		for _, need := range needs {
			l = append(l, wrong{fmt.Sprintf("stage %d need %d", i, need), func(c *api.Contract) { c.Stages[i].Need = need }})
		}
		for _, name := range noNames() {
			l = append(l, wrong{fmt.Sprintf("stage %d name %q", i, name), func(c *api.Contract) { c.Stages[i].Name = name }})
		}
	}
	return l
}

// wrongMoves are wrong in a move of loan.
func wrongMoves() []wrong {
	l := []wrong{
		{"too many", func(c *api.Contract) {
			for i := len(c.Moves); i <= api.MaxMoves; i++ {
				c.Moves = append(c.Moves, api.Move{Name: long(api.MaxName, "klmnopqrs"[i:i+1]), Guard: yes()})
			}
		}},
		{"far too many", func(c *api.Contract) { c.Moves = make([]api.Move, 1000) }},
		{"two of one name", func(c *api.Contract) { c.Moves[1].Name = c.Moves[0].Name }},
		{"the last as the first", func(c *api.Contract) {
			c.Moves = append(c.Moves, api.Move{Name: c.Moves[0].Name, Guard: yes()})
		}},
		{"the last two", func(c *api.Contract) {
			c.Moves = append(c.Moves, api.Move{Name: c.Moves[1].Name, Guard: yes()})
		}},
	}
	for i := range 2 {
		for _, name := range noNames() {
			l = append(l, wrong{fmt.Sprintf("move %d name %q", i, name), func(c *api.Contract) { c.Moves[i].Name = name }})
		}
		for _, n := range []int{-1, 3, math.MinInt, math.MaxInt} {
			l = append(l, wrong{fmt.Sprintf("move %d from %d", i, n), func(c *api.Contract) { c.Moves[i].From = n }})
			l = append(l, wrong{fmt.Sprintf("move %d to %d", i, n), func(c *api.Contract) { c.Moves[i].To = n }})
		}
		for _, n := range []int{-2, api.Orgs, math.MinInt, math.MaxInt} {
			l = append(l, wrong{fmt.Sprintf("move %d organization %d", i, n), func(c *api.Contract) { c.Moves[i].Org = n }})
		}
		for _, e := range []api.Expr{
			{}, constant(integer(1)), constant(text("true")), constant(num(1)), constant(api.Value{}),
			field("sum"), field("state"), field("none"), field(""), op(api.OpAdd, field("sum"), field("sum")), op(api.OpNot, field("sum")), op(api.OpAnd, yes()), op(99),
			{Op: api.OpConst, Val: truth(true), Name: "paid"}, chain(api.MaxDeep + 1), bush(api.MaxNodes + 1),
		} {
			l = append(l, wrong{fmt.Sprintf("move %d guard of op %d", i, e.Op), func(c *api.Contract) { c.Moves[i].Guard = e }})
		}
	}
	return append(l, wrongEffects()...)
}

// wrongEffects are wrong in an effect of loan's second move.
func wrongEffects() []wrong {
	set := func(effects ...api.Effect) func(c *api.Contract) {
		return func(c *api.Contract) { c.Moves[1].Effects = effects }
	}
	state, sum := api.Effect{Field: "state", Expr: constant(text("new"))}, api.Effect{Field: "sum", Expr: constant(integer(1))}
	paid, rate := api.Effect{Field: "paid", Expr: yes()}, api.Effect{Field: "rate", Expr: constant(num(1))}
	l := []wrong{
		{"five effects", func(c *api.Contract) {
			c.Fields = append(c.Fields, api.Field{Name: "more", Kind: api.KindInt, Init: integer(0)})
			c.Moves[1].Effects = []api.Effect{state, sum, paid, rate, {Field: "more", Expr: constant(integer(1))}}
		}},
		{"far too many effects", func(c *api.Contract) { c.Moves[1].Effects = make([]api.Effect, 1000) }},
		{"two on one field", set(sum, sum)},
		{"two on one field, the last two", set(state, sum, sum)},
		{"two on one field, the first and the last", set(sum, state, paid, sum)},
		{"two that differ on one field", set(sum, api.Effect{Field: "sum", Expr: constant(integer(2))})},
	}
	for _, e := range []api.Effect{
		{}, {Field: "sum"}, {Field: "", Expr: constant(integer(1))}, {Field: "none", Expr: constant(integer(1))}, {Field: "Sum", Expr: constant(integer(1))}, {Field: "ask", Expr: constant(integer(1))},
		{Field: "sum", Expr: constant(num(1))}, {Field: "sum", Expr: yes()}, {Field: "sum", Expr: field("state")}, {Field: "sum", Expr: field("none")}, {Field: "sum", Expr: op(api.OpNum, field("sum"))},
		{Field: "state", Expr: constant(integer(1))}, {Field: "state", Expr: constant(text(long(api.MaxText+1, "x")))}, {Field: "paid", Expr: field("state")}, {Field: "rate", Expr: field("sum")},
		{Field: "paid", Expr: chain(api.MaxDeep + 1)}, {Field: "paid", Expr: bush(api.MaxNodes + 1)},
	} {
		l = append(l, wrong{fmt.Sprintf("effect on %q of op %d alone", e.Field, e.Expr.Op), set(e)})
		l = append(l, wrong{fmt.Sprintf("effect on %q of op %d behind others", e.Field, e.Expr.Op), func(c *api.Contract) {
			c.Moves[1].Effects = nil
			for _, y := range []api.Effect{state, sum, paid, rate} {
				if y.Field != e.Field && len(c.Moves[1].Effects) < api.MaxEffects-1 {
					c.Moves[1].Effects = append(c.Moves[1].Effects, y)
				}
			}
			c.Moves[1].Effects = append(c.Moves[1].Effects, e)
		}})
	}
	return l
}

// unseen are wrong in what has no bytes, or no end.
func unseen() []group {
	fields, moves := group{err: api.ErrField}, group{err: api.ErrMove}
	for i := range 4 {
		fields.list = append(fields.list, wrong{fmt.Sprintf("field %d first value not good", i), func(c *api.Contract) {
			c.Fields[i].Init = api.Value{Kind: c.Fields[i].Kind, Int: 1, Text: "new"}
		}})
	}
	notGood := constant(api.Value{Kind: api.KindBool, Bool: true, Int: 1})
	for _, e := range []api.Expr{notGood, op(api.OpAnd, yes(), notGood), ring(), op(api.OpAdd, ring())} {
		for i := range 2 {
			moves.list = append(moves.list, wrong{fmt.Sprintf("move %d guard of op %d", i, e.Op), func(c *api.Contract) { c.Moves[i].Guard = e }})
		}
		for _, name := range []string{"paid", "sum", "none", ""} {
			moves.list = append(moves.list, wrong{fmt.Sprintf("effect on %q of op %d", name, e.Op), func(c *api.Contract) {
				c.Moves[1].Effects = []api.Effect{{Field: "state", Expr: field("state")}, {Field: name, Expr: e}}
			}})
		}
	}
	return []group{fields, moves}
}

// group is all that is wrong with one error.
type group struct {
	err  api.Errno
	list []wrong
}

// groups are in the order in which the errors are asked for.
func groups() []group {
	return []group{{api.ErrName, wrongNames()}, {api.ErrField, wrongFields()}, {api.ErrStage, wrongStages()}, {api.ErrMove, wrongMoves()}}
}

// TestCheckRight is of promise 6.1: what is right, at each limit, too.
func TestCheckRight(t *testing.T) {
	for i, c := range rights() {
		if err := contract.Check(c); err != api.OK {
			t.Errorf("%d: error %d of %v", i, err, c)
		}
	}
}

// TestCheckEveryNumber is of promise 6.1: all that is between the edges is right.
func TestCheckEveryNumber(t *testing.T) {
	for n := 1; n <= api.MaxName; n++ {
		c := loan()
		c.Name, c.Fields[2].Name, c.Stages[2].Name, c.Moves[1].Name = long(n, "x"), long(n, "x"), long(n, "x"), long(n, "x")
		if err := contract.Check(c); err != api.OK {
			t.Errorf("names of %d bytes: error %d", n, err)
		}
	}
	for set := range 1 << api.Orgs {
		var orgs []int
		for org := range api.Orgs {
			if set>>org&1 == 1 {
				orgs = append(orgs, org)
			}
		}
		for need := -1; need <= api.Orgs+1; need++ {
			want := api.ErrStage
			if need >= 0 && need <= len(orgs) {
				want = api.OK
			}
			c := loan()
			c.Stages[2].Orgs, c.Stages[2].Need = orgs, need
			if err := contract.Check(c); err != want {
				t.Errorf("%d of %v: error %d, want %d", need, orgs, err, want)
			}
		}
	}
	for n := -3; n <= 6; n++ {
		for what, y := range map[string]struct {
			set         func(m *api.Move)
			least, most int
		}{
			"from":         {func(m *api.Move) { m.From = n }, 0, 2},
			"to":           {func(m *api.Move) { m.To = n }, 0, 2},
			"organization": {func(m *api.Move) { m.Org = n }, -1, 3},
		} {
			want := api.ErrMove
			if n >= y.least && n <= y.most {
				want = api.OK
			}
			c := loan()
			y.set(&c.Moves[1])
			if err := contract.Check(c); err != want {
				t.Errorf("%s %d: error %d, want %d", what, n, err, want)
			}
		}
	}
}

// TestCheckWrong is of promise 6.1: each thing that is wrong has its error, whatever it stands in.
func TestCheckWrong(t *testing.T) {
	for _, g := range append(groups(), unseen()...) {
		for _, y := range g.list {
			c := loan()
			y.do(&c)
			if err := contract.Check(c); err != g.err {
				t.Errorf("%s: error %d, want %d", y.what, err, g.err)
			}
		}
	}
}

// TestCheckOrder is of promise 6.1 by rule R2: of two things that are wrong the one is told that the chapter names first.
func TestCheckOrder(t *testing.T) {
	all := groups()
	for i, first := range all {
		for _, second := range all[i+1:] {
			for _, one := range first.list {
				for _, two := range second.list {
					c := loan()
					two.do(&c)
					one.do(&c)
					if err := contract.Check(c); err != first.err {
						t.Errorf("%s, and %s: error %d, want %d", one.what, two.what, err, first.err)
					}
				}
			}
		}
	}
	if err := contract.Check(api.Contract{}); err != api.ErrName {
		t.Errorf("of nothing: error %d", err)
	}
}

// TestCheckPastTheLimit is of promise 6.1: one more than may be is an error though all else is right.
func TestCheckPastTheLimit(t *testing.T) {
	for want, y := range map[api.Errno]func(c *api.Contract){
		api.ErrName: func(c *api.Contract) { c.Name += "m" },
		api.ErrField: func(c *api.Contract) {
			c.Fields = append(c.Fields, api.Field{Name: "z", Kind: api.KindInt, Init: integer(0)})
		},
		api.ErrStage: func(c *api.Contract) { c.Stages = append(c.Stages, api.Stage{Name: "z"}) },
		api.ErrMove:  func(c *api.Contract) { c.Moves = append(c.Moves, api.Move{Name: "z", Guard: yes()}) },
	} {
		c := full()
		y(&c)
		if err := contract.Check(c); err != want {
			t.Errorf("error %d, want %d", err, want)
		}
	}
	c := full()
	c.Fields[0].Enum = append(c.Fields[0].Enum, "z")
	if err := contract.Check(c); err != api.ErrField {
		t.Errorf("texts: error %d", err)
	}
	c = full()
	c.Moves[3].Effects = append(c.Moves[3].Effects, api.Effect{Field: c.Fields[4].Name, Expr: field(c.Fields[4].Name)})
	if err := contract.Check(c); err != api.ErrMove {
		t.Errorf("effects: error %d", err)
	}
}

// TestFind is of promise 6.1: the place of the first one of a name, whatever else has that name, and whether the contract is right or not.
func TestFind(t *testing.T) {
	var twice api.Contract
	for _, name := range []string{"a", "b", "a", "", long(99, "x"), "b", ""} {
		twice.Fields = append(twice.Fields, api.Field{Name: name})
		twice.Stages = append(twice.Stages, api.Stage{Name: name})
		twice.Moves = append(twice.Moves, api.Move{Name: name})
	}
	for what, find := range map[string]func(c api.Contract, name string) int{"field": contract.Field, "stage": contract.Stage, "move": contract.Move} {
		for name, want := range map[string]int{"a": 0, "b": 1, "": 3, long(99, "x"): 4, "A": -1, "ab": -1, "a\x00": -1, long(98, "x"): -1} {
			if got := find(twice, name); got != want {
				t.Errorf("%s %q: %d, want %d", what, name, got, want)
			}
			if got := find(api.Contract{Name: name}, name); got != -1 {
				t.Errorf("%s %q of none: %d", what, name, got)
			}
		}
	}
	c := loan()
	for i, f := range c.Fields {
		if contract.Field(c, f.Name) != i || contract.Stage(c, f.Name) != -1 || contract.Move(c, f.Name) != -1 {
			t.Errorf("field %q", f.Name)
		}
	}
	for i, s := range c.Stages {
		if contract.Stage(c, s.Name) != i || contract.Field(c, s.Name) != -1 || contract.Move(c, s.Name) != -1 {
			t.Errorf("stage %q", s.Name)
		}
	}
	for i, m := range c.Moves {
		if contract.Move(c, m.Name) != i || contract.Field(c, m.Name) != -1 || contract.Stage(c, m.Name) != -1 {
			t.Errorf("move %q", m.Name)
		}
	}
}

// TestCheckChangesNothing is of promise 6.1 by rule R4: what is handed in stays, behind a list's end, too, and is told the same again (R5).
func TestCheckChangesNothing(t *testing.T) {
	for _, c := range rights() {
		c.Fields = append(slices.Clone(c.Fields), api.Field{Name: "behind"})[:len(c.Fields)]
		was, whole := clone(c), slices.Clone(c.Fields[:cap(c.Fields)])
		for range 2 {
			if err := contract.Check(c); err != api.OK {
				t.Errorf("error %d of %v", err, c)
			}
			contract.Field(c, "state")
			contract.Stage(c, "pay")
			contract.Move(c, "back")
			contract.Put(nil, c)
		}
		same := slices.EqualFunc(whole, c.Fields[:cap(c.Fields)], func(a, b api.Field) bool { return a.Name == b.Name })
		if !alike(c, was) || !same {
			t.Errorf("%v, was %v", c, was)
		}
	}
}
