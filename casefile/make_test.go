package casefile_test

import (
	"math"
	"slices"
	"strings"
	"testing"

	"quaestor/api"
	"quaestor/casefile"
	"quaestor/value"
)

// mostSteps is how many steps the chapter lets a case take.
const mostSteps = 1 << 40

func integer(n int64) api.Value { return api.Value{Kind: api.KindInt, Int: n} }

func truth(x bool) api.Value { return api.Value{Kind: api.KindBool, Bool: x} }

func text(s string) api.Value { return api.Value{Kind: api.KindText, Text: s} }

func num(x float64) api.Value { return api.Value{Kind: api.KindNum, Num: x} }

func constant(v api.Value) api.Expr { return api.Expr{Op: api.OpConst, Val: v} }

func field(name string) api.Expr { return api.Expr{Op: api.OpField, Name: name} }

func op(o int, kids ...api.Expr) api.Expr { return api.Expr{Op: o, Kids: kids} }

func yes() api.Expr { return constant(truth(true)) }

func no() api.Expr { return constant(truth(false)) }

// over and zero are ints that are never told.
func over() api.Expr { return op(api.OpNeg, constant(integer(math.MinInt64))) }

func zero() api.Expr { return op(api.OpDiv, constant(integer(1)), constant(integer(0))) }

// tell makes a guard of an expression that may give up.
func tell(e api.Expr) api.Expr { return op(api.OpEq, e, e) }

// long is a text of so many bytes.
func long(n int) string { return strings.Repeat("m", n) }

// The stages of loan: none has a say, two of three must, one may, one must where no move leads on.
const (
	ask = iota
	pay
	end
	shut
)

// loan is a contract with a bit of everything.
func loan() api.Contract {
	return api.Contract{
		Name: "loan",
		Fields: []api.Field{
			{Name: "state", Kind: api.KindText, Enum: []string{"new", "old"}, Init: text("new")},
			{Name: "sum", Kind: api.KindInt, Init: integer(5)},
			{Name: "rest", Kind: api.KindInt, Init: integer(-2)},
			{Name: "paid", Kind: api.KindBool, Init: truth(false)},
			{Name: "rate", Kind: api.KindNum, Init: num(1.5)},
			{Name: "note", Kind: api.KindText, Init: text("")},
		},
		Stages: []api.Stage{
			{Name: "ask"},
			{Name: "pay", Need: 2, Orgs: []int{0, 1, 3}},
			{Name: "end", Orgs: []int{2}},
			{Name: "shut", Need: 1, Orgs: []int{0, 2}},
		},
		Moves: []api.Move{
			{Name: "grant", From: ask, To: pay, Org: -1, Guard: op(api.OpNot, field("paid"))},
			{Name: "back", From: pay, To: ask, Org: 2, Guard: yes()},
			{Name: "stay", From: pay, To: pay, Org: -1, Guard: yes()},
			{Name: "swap", From: pay, To: end, Org: -1, Guard: op(api.OpLess, field("rest"), field("sum")), Effects: []api.Effect{
				{Field: "rest", Expr: field("sum")},
				{Field: "sum", Expr: field("rest")},
				{Field: "paid", Expr: yes()},
			}},
			{Name: "share", From: end, To: end, Org: -1, Guard: op(api.OpLess, constant(integer(0)), op(api.OpDiv, constant(integer(10)), field("sum")))},
			{Name: "double", From: end, To: end, Org: -1, Guard: yes(), Effects: []api.Effect{{Field: "sum", Expr: op(api.OpAdd, field("sum"), field("sum"))}}},
			{Name: "name", From: end, To: end, Org: 2, Guard: yes(), Effects: []api.Effect{{Field: "state", Expr: field("note")}}},
			{Name: "shut", From: end, To: shut, Org: -1, Guard: field("paid")},
		},
	}
}

// bare is a contract with nothing that may be missing.
func bare() api.Contract {
	return api.Contract{Name: "c", Stages: []api.Stage{{Name: "s"}}}
}

// opened is a case of loan in a stage, endorsed by some.
func opened(stage int, endorsed ...int) api.Case {
	return api.Case{
		Id: "k", Contract: "loan", Stage: stage, Endorsed: endorsed, Steps: 7,
		Values: []api.Value{text("old"), integer(9), integer(3), truth(false), num(-2.5), text("new")},
	}
}

// suspended and closed are the case, but suspended, or closed.
func suspended(k api.Case) api.Case {
	k.Suspended = true
	return k
}

func closed(k api.Case) api.Case {
	k.Closed = true
	return k
}

// cloneCase and cloneContract copy: what is done to the one is not done to the other.
func cloneCase(k api.Case) api.Case {
	k.Values, k.Endorsed = slices.Clone(k.Values), slices.Clone(k.Endorsed)
	return k
}

func cloneContract(c api.Contract) api.Contract {
	c.Fields, c.Stages, c.Moves = slices.Clone(c.Fields), slices.Clone(c.Stages), slices.Clone(c.Moves)
	for i := range c.Fields {
		c.Fields[i].Enum = slices.Clone(c.Fields[i].Enum)
	}
	for i := range c.Stages {
		c.Stages[i].Orgs = slices.Clone(c.Stages[i].Orgs)
	}
	for i := range c.Moves {
		c.Moves[i].Guard = cloneExpr(c.Moves[i].Guard)
		c.Moves[i].Effects = slices.Clone(c.Moves[i].Effects)
		for j := range c.Moves[i].Effects {
			c.Moves[i].Effects[j].Expr = cloneExpr(c.Moves[i].Effects[j].Expr)
		}
	}
	return c
}

func cloneExpr(e api.Expr) api.Expr {
	e.Kids = slices.Clone(e.Kids)
	for i := range e.Kids {
		e.Kids[i] = cloneExpr(e.Kids[i])
	}
	return e
}

// alike tells whether two cases are the same.
func alike(a, b api.Case) bool {
	return a.Id == b.Id && a.Contract == b.Contract && a.Stage == b.Stage && a.Suspended == b.Suspended && a.Closed == b.Closed && a.Steps == b.Steps &&
		slices.EqualFunc(a.Values, b.Values, value.Same) && slices.Equal(a.Endorsed, b.Endorsed)
}

// call is what Do is handed.
type call struct {
	c    api.Contract
	k    api.Case
	do   int
	name string
	v    api.Value
	org  int
}

func (x call) done() (api.Case, api.Errno) {
	return casefile.Do(x.c, x.k, x.do, x.name, x.v, x.org)
}

// clone copies what is handed in.
func (x call) clone() call {
	x.c, x.k = cloneContract(x.c), cloneCase(x.k)
	return x
}

// must tells what comes of a call, which has to be without error, and right.
func (x call) must(t testing.TB) api.Case {
	t.Helper()
	k, err := x.done()
	if err != api.OK || !casefile.Right(x.c, k) {
		t.Fatalf("%+v: %+v, error %d", x, k, err)
	}
	return k
}

// refused holds a call to an error, beside which the case is as it was.
func (x call) refused(t testing.TB, what string, want api.Errno) {
	t.Helper()
	if k, err := x.done(); err != want || !alike(k, x.k) {
		t.Errorf("%s: error %d, want %d, of %+v; told %+v", what, err, want, x.k, k)
	}
}

// deeds are the seven.
func deeds() []int {
	return []int{api.DoUpdate, api.DoEndorse, api.DoAdvance, api.DoSuspend, api.DoResume, api.DoClose, api.DoReopen}
}

// fine is a call that has no error. All that may count with one of the deeds is of use with others, too.
func fine(do int) call {
	x := call{c: loan(), k: opened(pay, 0), do: do, name: "sum", v: integer(4), org: 1}
	switch do {
	case api.DoAdvance:
		x.k, x.name = opened(pay, 0, 3), "swap"
	case api.DoResume:
		x.k = suspended(x.k)
	case api.DoClose:
		x.k = opened(shut, 2)
	case api.DoReopen:
		x.k = closed(opened(shut, 0))
	}
	return x
}

// rights are cases that are right, of each standing, and at the edges.
func rights() []call {
	var l []call
	for _, k := range []api.Case{
		opened(ask), opened(pay), opened(pay, 0, 1, 3), opened(end, 2), opened(end), opened(shut, 0),
		suspended(opened(ask)), suspended(opened(pay, 1)), suspended(opened(shut, 2)),
		closed(opened(ask)), closed(opened(pay, 3)), closed(opened(shut, 0, 2)),
	} {
		l = append(l, call{c: loan(), k: k})
	}
	full := opened(pay, 0, 3)
	full.Steps = mostSteps
	return append(l, call{c: loan(), k: full},
		call{c: bare(), k: api.Case{Id: "\x00", Contract: "c"}},
		call{c: bare(), k: api.Case{Id: long(api.MaxName), Contract: "c", Values: []api.Value{}, Endorsed: []int{}, Steps: mostSteps - 1}},
	)
}
