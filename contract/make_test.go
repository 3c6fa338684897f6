package contract_test

import (
	"math"
	"slices"
	"strings"

	"quaestor/api"
	"quaestor/expr"
	"quaestor/value"
	"quaestor/wire"
)

func integer(n int64) api.Value { return api.Value{Kind: api.KindInt, Int: n} }

func truth(x bool) api.Value { return api.Value{Kind: api.KindBool, Bool: x} }

func text(s string) api.Value { return api.Value{Kind: api.KindText, Text: s} }

func num(x float64) api.Value { return api.Value{Kind: api.KindNum, Num: x} }

func constant(v api.Value) api.Expr { return api.Expr{Op: api.OpConst, Val: v} }

func field(name string) api.Expr { return api.Expr{Op: api.OpField, Name: name} }

func op(o int, kids ...api.Expr) api.Expr { return api.Expr{Op: o, Kids: kids} }

func yes() api.Expr { return constant(truth(true)) }

// long is a text of so many bytes, another one for each mark.
func long(n int, mark string) string { return (mark + strings.Repeat("m", n))[:n] }

// chain makes deep parts within one another, which tell a truth.
func chain(deep int) api.Expr {
	e := yes()
	for range deep - 1 {
		e = op(api.OpNot, e)
	}
	return e
}

// bush makes an expression of so many parts that tells a truth, few of them within one another.
func bush(parts int) api.Expr {
	switch parts {
	case 1:
		return yes()
	case 2:
		return op(api.OpNot, yes())
	}
	left := (parts - 1) / 2
	return op(api.OpAnd, bush(left), bush(parts-1-left))
}

// ring makes an expression that stands within itself.
func ring() api.Expr {
	kids := make([]api.Expr, 2)
	e := op(api.OpAnd, kids...)
	kids[0], kids[1] = e, e
	return e
}

// least is a contract with nothing that may be missing.
func least() api.Contract {
	return api.Contract{Name: "c", Stages: []api.Stage{{Name: "s"}}}
}

// loan is a contract with a bit of everything.
func loan() api.Contract {
	return api.Contract{
		Name: "loan",
		Fields: []api.Field{
			{Name: "state", Kind: api.KindText, Enum: []string{"new", "old"}, Init: text("new")},
			{Name: "sum", Kind: api.KindInt, Init: integer(-2)},
			{Name: "paid", Kind: api.KindBool, Init: truth(false)},
			{Name: "rate", Kind: api.KindNum, Init: num(1.5)},
		},
		Stages: []api.Stage{{Name: "ask"}, {Name: "pay", Need: 1, Orgs: []int{1, 2}}, {Name: "end", Orgs: []int{0, 3}}},
		Moves: []api.Move{
			{Name: "grant", To: 1, Org: -1, Guard: yes()},
			{Name: "back", From: 1, To: 0, Org: 3, Guard: op(api.OpLess, field("sum"), constant(integer(1))), Effects: []api.Effect{
				{Field: "sum", Expr: op(api.OpAdd, field("sum"), constant(integer(1)))},
				{Field: "state", Expr: constant(text("none of its texts"))},
			}},
		},
	}
}

// full is a contract at every limit.
func full() api.Contract {
	c := api.Contract{Name: long(api.MaxName, "c")}
	kinds := []api.Value{text(long(api.MaxText, "d")), integer(math.MinInt64), truth(true), num(math.NaN()), text(long(api.MaxText, "z")), num(math.Copysign(0, -1))}
	for i := range api.MaxFields {
		c.Fields = append(c.Fields, api.Field{Name: long(api.MaxName, "abcdef"[i:i+1]), Kind: kinds[i].Kind, Init: kinds[i]})
	}
	for i := range api.MaxEnum {
		c.Fields[0].Enum = append(c.Fields[0].Enum, long(api.MaxText, "abcd"[i:i+1]))
	}
	for i := range api.MaxStages {
		c.Stages = append(c.Stages, api.Stage{Name: long(api.MaxName, "abcdef"[i:i+1]), Need: api.Orgs, Orgs: []int{0, 1, 2, 3}})
	}
	for i := range api.MaxMoves {
		m := api.Move{Name: long(api.MaxName, "abcdefgh"[i:i+1]), From: api.MaxStages - 1, To: api.MaxStages - 1, Org: api.Orgs - 1, Guard: bush(api.MaxNodes)}
		for _, f := range c.Fields[:api.MaxEffects] {
			m.Effects = append(m.Effects, api.Effect{Field: f.Name, Expr: field(f.Name)})
		}
		c.Moves = append(c.Moves, m)
	}
	c.Moves[0].Guard = chain(api.MaxDeep)
	return c
}

// rights are contracts that are right.
func rights() []api.Contract {
	l := []api.Contract{least(), loan(), full()}
	for _, y := range []func(c *api.Contract){
		func(c *api.Contract) { c.Name = "\x00" },
		func(c *api.Contract) { c.Fields, c.Moves = []api.Field{}, []api.Move{} },
		func(c *api.Contract) { c.Fields, c.Moves = nil, c.Moves[:1] },
		func(c *api.Contract) { c.Moves = nil },
		func(c *api.Contract) { c.Fields[0].Enum = nil },
		func(c *api.Contract) { c.Fields[0].Enum = []string{"new"} },
		func(c *api.Contract) { c.Fields[0].Enum, c.Fields[0].Init = []string{"", "new"}, text("") },
		func(c *api.Contract) { c.Fields[1].Enum = []string{} },
		func(c *api.Contract) { c.Fields[3].Init = num(math.Inf(-1)) },
		func(c *api.Contract) { c.Fields[3].Init = num(math.NaN()) },
		func(c *api.Contract) {
			c.Stages[0].Name, c.Moves[0].Name, c.Fields[0].Name = "x", "x", "x"
			c.Moves = c.Moves[:1]
		},
		func(c *api.Contract) { c.Stages = append(c.Stages, api.Stage{Name: "loan", Need: 0, Orgs: []int{3}}) },
		func(c *api.Contract) { c.Stages[1].Need = 2 },
		func(c *api.Contract) { c.Stages[1].Need = 0 },
		func(c *api.Contract) { c.Moves[0].From, c.Moves[0].To = 2, 2 },
		func(c *api.Contract) { c.Moves[0].Org = 0 },
		func(c *api.Contract) { c.Moves[0].Effects = []api.Effect{} },
		func(c *api.Contract) {
			c.Moves[1].Guard = op(api.OpEq, op(api.OpDiv, constant(integer(1)), constant(integer(0))), field("sum"))
		},
	} {
		c := loan()
		y(&c)
		l = append(l, c)
	}
	return l
}

// clone copies a contract: what is done to the one is not done to the other.
func clone(c api.Contract) api.Contract {
	c.Fields = slices.Clone(c.Fields)
	for i := range c.Fields {
		c.Fields[i].Enum = slices.Clone(c.Fields[i].Enum)
	}
	c.Stages = slices.Clone(c.Stages)
	for i := range c.Stages {
		c.Stages[i].Orgs = slices.Clone(c.Stages[i].Orgs)
	}
	c.Moves = slices.Clone(c.Moves)
	for i, m := range c.Moves {
		c.Moves[i].Guard = cloneExpr(m.Guard)
		c.Moves[i].Effects = slices.Clone(m.Effects)
		for j, e := range m.Effects {
			c.Moves[i].Effects[j].Expr = cloneExpr(e.Expr)
		}
	}
	return c
}

func cloneExpr(e api.Expr) api.Expr {
	e.Kids = slices.Clone(e.Kids)
	for i, kid := range e.Kids {
		e.Kids[i] = cloneExpr(kid)
	}
	return e
}

// alike tells whether two contracts are the same.
func alike(a, b api.Contract) bool {
	return a.Name == b.Name &&
		slices.EqualFunc(a.Fields, b.Fields, func(a, b api.Field) bool {
			return a.Name == b.Name && a.Kind == b.Kind && slices.Equal(a.Enum, b.Enum) && value.Same(a.Init, b.Init)
		}) &&
		slices.EqualFunc(a.Stages, b.Stages, func(a, b api.Stage) bool {
			return a.Name == b.Name && a.Need == b.Need && slices.Equal(a.Orgs, b.Orgs)
		}) &&
		slices.EqualFunc(a.Moves, b.Moves, func(a, b api.Move) bool {
			return a.Name == b.Name && a.From == b.From && a.To == b.To && a.Org == b.Org && alikeExpr(a.Guard, b.Guard) &&
				slices.EqualFunc(a.Effects, b.Effects, func(a, b api.Effect) bool { return a.Field == b.Field && alikeExpr(a.Expr, b.Expr) })
		})
}

func alikeExpr(a, b api.Expr) bool {
	return a.Op == b.Op && a.Name == b.Name && value.Same(a.Val, b.Val) && slices.EqualFunc(a.Kids, b.Kids, alikeExpr)
}

// empty tells whether it is the zero value of contracts.
func empty(c api.Contract) bool { return alike(c, api.Contract{}) }

// putAny puts what Put does, of contracts that are not right, too.
func putAny(c api.Contract) []byte {
	b := wire.PutBytes(nil, []byte(c.Name))
	b = wire.PutCount(b, len(c.Fields))
	for _, f := range c.Fields {
		b = wire.PutInt(wire.PutBytes(b, []byte(f.Name)), int64(f.Kind))
		b = wire.PutCount(b, len(f.Enum))
		for _, s := range f.Enum {
			b = wire.PutBytes(b, []byte(s))
		}
		b = value.Put(b, f.Init)
	}
	b = wire.PutCount(b, len(c.Stages))
	for _, s := range c.Stages {
		b = wire.PutInt(wire.PutBytes(b, []byte(s.Name)), int64(s.Need))
		b = wire.PutCount(b, len(s.Orgs))
		for _, org := range s.Orgs {
			b = wire.PutInt(b, int64(org))
		}
	}
	b = wire.PutCount(b, len(c.Moves))
	for _, m := range c.Moves {
		b = wire.PutInt(wire.PutBytes(b, []byte(m.Name)), int64(m.From))
		b = putExpr(wire.PutInt(wire.PutInt(b, int64(m.To)), int64(m.Org)), m.Guard)
		b = wire.PutCount(b, len(m.Effects))
		for _, e := range m.Effects {
			b = putExpr(wire.PutBytes(b, []byte(e.Field)), e.Expr)
		}
	}
	return b
}

// putExpr puts what expr.Put does, of expressions that are not small, too.
func putExpr(b []byte, e api.Expr) []byte {
	kids := e.Kids
	e.Kids = nil
	if len(kids) == 0 {
		return expr.Put(b, e)
	}
	b = wire.PutBytes(wire.PutCount(wire.PutInt(b, int64(e.Op)), len(kids)), []byte(e.Name))
	b = value.Put(b, e.Val)
	for _, kid := range kids {
		b = putExpr(b, kid)
	}
	return b
}
