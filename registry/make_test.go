package registry_test

import (
	"cmp"
	"encoding/hex"
	"fmt"
	"math"
	"slices"
	"strings"
	"testing"

	"quaestor/api"
	"quaestor/contract"
	"quaestor/registry"
	"quaestor/value"
	"quaestor/wire"
)

// mostSteps is how many steps chapter 7 lets a case take.
const mostSteps = 1 << 40

func integer(n int64) api.Value { return api.Value{Kind: api.KindInt, Int: n} }

func truth(x bool) api.Value { return api.Value{Kind: api.KindBool, Bool: x} }

func text(s string) api.Value { return api.Value{Kind: api.KindText, Text: s} }

func num(x float64) api.Value { return api.Value{Kind: api.KindNum, Num: x} }

// values are good ones of each kind, and none.
func values() []api.Value {
	return []api.Value{
		{}, integer(0), integer(-1), integer(math.MaxInt64), integer(math.MinInt64), truth(false), truth(true),
		text(""), text("x"), text(long(api.MaxText, "x")), num(0), num(math.Copysign(0, -1)), num(1.5), num(math.NaN()), num(math.Inf(-1)),
	}
}

func constant(v api.Value) api.Expr { return api.Expr{Op: api.OpConst, Val: v} }

func field(name string) api.Expr { return api.Expr{Op: api.OpField, Name: name} }

func op(o int, kids ...api.Expr) api.Expr { return api.Expr{Op: o, Kids: kids} }

func yes() api.Expr { return constant(truth(true)) }

// long is a text of so many bytes, another one for each mark.
func long(n int, mark string) string { return (mark + strings.Repeat("m", n))[:n] }

// bare is a contract with nothing that may be missing.
func bare(name string) api.Contract {
	return api.Contract{Name: name, Stages: []api.Stage{{Name: "s"}}}
}

// loan is a contract with a bit of everything: a stage of nobody, one that must endorse, one where no move leads on.
func loan() api.Contract {
	return api.Contract{
		Name: "loan",
		Fields: []api.Field{
			{Name: "state", Kind: api.KindText, Enum: []string{"new", "old"}, Init: text("new")},
			{Name: "sum", Kind: api.KindInt, Init: integer(5)},
			{Name: "rate", Kind: api.KindNum, Init: num(1.5)},
		},
		Stages: []api.Stage{{Name: "ask"}, {Name: "pay", Need: 2, Orgs: []int{0, 1, 3}}, {Name: "end", Orgs: []int{2}}},
		Moves: []api.Move{
			{Name: "grant", From: 0, To: 1, Org: -1, Guard: op(api.OpLess, constant(integer(0)), op(api.OpSub, field("sum"), constant(integer(1))))},
			{Name: "share", From: 0, To: 0, Org: -1, Guard: op(api.OpLess, constant(integer(0)), op(api.OpDiv, constant(integer(10)), field("sum")))},
			{Name: "back", From: 1, To: 0, Org: 3, Guard: yes()},
			{Name: "pay", From: 1, To: 2, Org: -1, Guard: yes(), Effects: []api.Effect{
				{Field: "sum", Expr: op(api.OpSub, field("sum"), constant(integer(1)))},
				{Field: "state", Expr: constant(text("old"))},
				{Field: "rate", Expr: op(api.OpDiv, field("rate"), constant(num(0)))},
			}},
		},
	}
}

// wide is a contract at every limit, which is right, but of too many bytes to be deployed.
func wide(name string) api.Contract {
	bush := yes()
	for range 3 {
		bush = op(api.OpAnd, bush, bush)
	}
	c := api.Contract{Name: name}
	for i := range api.MaxFields {
		mark := "abcdef"[i : i+1]
		c.Fields = append(c.Fields, api.Field{Name: long(api.MaxName, mark), Kind: api.KindText, Init: text(long(api.MaxText, mark))})
	}
	for i := range api.MaxStages {
		c.Stages = append(c.Stages, api.Stage{Name: long(api.MaxName, "abcdef"[i:i+1]), Need: api.Orgs, Orgs: []int{0, 1, 2, 3}})
	}
	for i := range api.MaxMoves {
		c.Moves = append(c.Moves, api.Move{Name: long(api.MaxName, "abcdefgh"[i:i+1]), From: 5, To: 5, Org: 3, Guard: bush})
	}
	return c
}

// opened is a case of loan in a stage, endorsed by some.
func opened(id string, stage int, endorsed ...int) api.Case {
	return api.Case{Id: id, Contract: "loan", Stage: stage, Endorsed: endorsed, Steps: 7, Values: []api.Value{text("old"), integer(9), num(-2.5)}}
}

// The operations.
func deploy(c api.Contract) api.Op { return api.Op{Kind: api.DoDeploy, Contract: c} }

func open(id, name string) api.Op { return api.Op{Kind: api.DoOpen, Id: id, Name: name} }

func do(kind int, id string) api.Op { return api.Op{Kind: kind, Id: id} }

func update(id, name string, v api.Value) api.Op {
	return api.Op{Kind: api.DoUpdate, Id: id, Name: name, Value: v}
}

func advance(id, name string) api.Op { return api.Op{Kind: api.DoAdvance, Id: id, Name: name} }

// Results.
func none(err api.Errno) api.Result { return api.Result{Code: err, Stage: -1} }

func in(stage int, err api.Errno) api.Result { return api.Result{Code: err, Stage: stage} }

// next executes an operation of client 1000 with the stamp that follows.
func next(r *registry.Registry, x api.Op, org int) api.Result {
	last, _ := r.Last(1000)
	return r.Execute(api.Request{Client: 1000, Stamp: last.Stamp + 1, Op: registry.PutOp(nil, x)}, org)
}

// must makes a registry of operations that organization 0 does without error.
func must(t testing.TB, l ...api.Op) *registry.Registry {
	t.Helper()
	r := registry.New()
	for i, x := range l {
		if got := next(r, x, 0); got.Code != api.OK {
			t.Fatalf("operation %d, %+v: %+v", i, x, got)
		}
	}
	return r
}

// parts is what a registry has, in lists that need not be right.
type parts struct {
	contracts []api.Contract
	cases     []api.Case
	dones     []api.Done
}

// of tells a registry's parts.
func of(r *registry.Registry) parts {
	return parts{r.Contracts(), r.Cases(), r.Dones()}
}

// show tells all that is in a thing, a list of nothing and none alike.
func show(x any) string { return fmt.Sprintf("%+v", x) }

// same tells whether two registries have the same, by all calls that tell it.
func same(a, b *registry.Registry) bool {
	return show(of(a)) == show(of(b)) && string(a.Put()) == string(b.Put()) && a.Digest() == b.Digest()
}

// put puts what the chapter says of parts, each contract by row.
func (p parts) put(row func(api.Contract) []byte) []byte {
	b := wire.PutCount(nil, len(p.contracts))
	for _, c := range p.contracts {
		b = wire.PutBytes(b, row(c))
	}
	b = wire.PutCount(b, len(p.cases))
	for _, k := range p.cases {
		b = wire.PutInt(wire.PutBytes(wire.PutBytes(b, []byte(k.Id)), []byte(k.Contract)), int64(k.Stage))
		b = wire.PutCount(b, len(k.Values))
		for _, v := range k.Values {
			b = value.Put(b, v)
		}
		b = wire.PutCount(b, len(k.Endorsed))
		for _, org := range k.Endorsed {
			b = wire.PutInt(b, int64(org))
		}
		b = wire.PutInt(wire.PutBool(wire.PutBool(b, k.Suspended), k.Closed), int64(k.Steps))
	}
	b = wire.PutCount(b, len(p.dones))
	for _, d := range p.dones {
		for _, n := range []int{d.Client, d.Stamp, int(d.Result.Code), d.Result.Stage} {
			b = wire.PutInt(b, int64(n))
		}
	}
	return b
}

// bytes puts parts whose contracts are right.
func (p parts) bytes() []byte {
	return p.put(func(c api.Contract) []byte { return contract.Put(nil, c) })
}

// sorted puts parts in their order.
func (p parts) sorted() parts {
	p.contracts, p.cases, p.dones = slices.Clone(p.contracts), slices.Clone(p.cases), slices.Clone(p.dones)
	slices.SortFunc(p.contracts, func(a, b api.Contract) int { return strings.Compare(a.Name, b.Name) })
	slices.SortFunc(p.cases, func(a, b api.Case) int { return strings.Compare(a.Id, b.Id) })
	slices.SortFunc(p.dones, func(a, b api.Done) int { return cmp.Compare(a.Client, b.Client) })
	return p
}

// got reads a registry that must be right.
func got(t testing.TB, p parts) *registry.Registry {
	t.Helper()
	r, err := registry.Get(p.bytes())
	if r == nil || err != api.OK {
		t.Fatalf("error %d of %+v", err, p)
	}
	return r
}

// unhex makes bytes of hexadecimal digits; blanks may stand between them.
func unhex(t testing.TB, s string) []byte {
	t.Helper()
	row, err := hex.DecodeString(strings.ReplaceAll(s, " ", ""))
	if err != nil {
		t.Fatalf("%q: %v", s, err)
	}
	return row
}

// How ints stand as bytes.
const (
	i0, i1, i2, i3 = "0000000000000000", "0000000000000001", "0000000000000002", "0000000000000003"
	minusOne       = "ffffffffffffffff"
)
