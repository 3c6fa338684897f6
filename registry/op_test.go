package registry_test

import (
	"bytes"
	"math"
	"testing"

	"quaestor/api"
	"quaestor/contract"
	"quaestor/registry"
	"quaestor/value"
	"quaestor/wire"
)

// bareBytes is what 6's Put puts of bare("c").
const bareBytes = "00000001 63 00000000 00000001 00000001 73" + i0 + "00000000 00000000"

// opBytes are operations to the byte.
var opBytes = []struct {
	x     api.Op
	bytes string
}{
	{api.Op{Kind: api.DoDeploy, Contract: bare("c")}, i1 + "00000000 00000000" + i0 + bareBytes},
	{api.Op{Kind: api.DoDeploy, Id: "i", Name: "nm", Value: truth(true), Contract: bare("c")}, i1 + "00000001 69 00000002 6e6d" + i2 + "01" + bareBytes},
	{api.Op{Kind: api.DoOpen, Id: "k", Name: "c"}, i2 + "00000001 6b 00000001 63" + i0},
	{api.Op{Kind: api.DoUpdate, Id: "k", Name: "sum", Value: integer(-1)}, i3 + "00000001 6b 00000003 73756d" + i1 + minusOne},
	{api.Op{Kind: api.DoUpdate, Id: "\x00", Value: text("ab")}, i3 + "00000001 00 00000000" + i3 + "00000002 6162"},
	{api.Op{Kind: api.DoUpdate, Value: num(math.Copysign(0, -1))}, i3 + "00000000 00000000 0000000000000004 8000000000000000"},
	{api.Op{Kind: api.DoReopen, Value: num(math.NaN())}, "0000000000000009 00000000 00000000 0000000000000004 7ff8000000000001"},
}

// TestPutOp is of "Operations as bytes": to the byte, behind whatever bytes stand ahead.
func TestPutOp(t *testing.T) {
	for _, y := range opBytes {
		for _, front := range []string{"", "x", "\x00\x00", "a longer row of bytes, all of which must stay"} {
			want := append([]byte(front), unhex(t, y.bytes)...)
			if got := registry.PutOp([]byte(front), y.x); !bytes.Equal(got, want) {
				t.Errorf("%+v behind %q: %x, want %x", y.x, front, got, want)
			}
		}
		if got := registry.PutOp(nil, y.x); !bytes.Equal(got, unhex(t, y.bytes)) {
			t.Errorf("%+v behind none: %x", y.x, got)
		}
	}
}

// putAny puts what PutOp must of any operation, but for a contract.
func putAny(x api.Op) []byte {
	b := wire.PutBytes(wire.PutBytes(wire.PutInt(nil, int64(x.Kind)), []byte(x.Id)), []byte(x.Name))
	return value.Put(b, x.Value)
}

// TestPutOpOfOthers is of "Operations as bytes": of what GetOp would not tell PutOp puts what it says, and of a contract that is not right, or of none to deploy, nothing.
func TestPutOpOfOthers(t *testing.T) {
	wrong := loan()
	wrong.Stages[1].Need = 4
	for kind := range 12 {
		for _, c := range []api.Contract{{}, wrong, loan(), wide("w")} {
			for _, v := range append(values(), api.Value{Kind: 5, Int: 3}, api.Value{Kind: -1}, text(long(99, "x")), api.Value{Int: 7, Text: "z"}) {
				x := api.Op{Kind: kind, Id: long(kind*5, "i"), Name: long(kind*7, "n"), Value: v, Contract: c}
				want := putAny(x)
				if kind == api.DoDeploy {
					want = contract.Put(want, c)
				}
				if got := registry.PutOp([]byte("ahead"), x); !bytes.Equal(got, append([]byte("ahead"), want...)) {
					t.Fatalf("%+v: %x, want %x", x, got, want)
				}
			}
		}
	}
	for _, kind := range []int{-1, math.MaxInt, math.MinInt} {
		x := api.Op{Kind: kind, Id: "k", Contract: loan()}
		if got := registry.PutOp(nil, x); !bytes.Equal(got, putAny(x)) {
			t.Errorf("kind %d: %x", kind, got)
		}
	}
	kids := make([]api.Expr, 2)
	ring := op(api.OpAnd, kids...)
	kids[0], kids[1] = ring, ring
	wrong = loan()
	wrong.Moves[0].Guard = ring
	if got := registry.PutOp(nil, deploy(wrong)); !bytes.Equal(got, putAny(deploy(wrong))) {
		t.Errorf("a guard without an end: %x", got)
	}
}

// TestPutOpSharesNothing is of "Operations as bytes" by rule R4: what is handed in stays, behind its end, too, and an answer is new memory.
func TestPutOpSharesNothing(t *testing.T) {
	for _, x := range []api.Op{{}, deploy(loan()), deploy(api.Contract{}), update("k", "sum", text("x"))} {
		back := bytes.Repeat([]byte{0xaa}, 10000)
		was := show(x)
		one := registry.PutOp(back[:3], x)
		two := registry.PutOp(back[:3], x)
		want := bytes.Clone(two)
		for i := range one {
			one[i] ^= 0xff
		}
		_ = append(one, "behind the end"...)
		if !bytes.Equal(back, bytes.Repeat([]byte{0xaa}, 10000)) || show(x) != was {
			t.Errorf("%+v: what was handed in is changed", x)
		}
		if !bytes.Equal(two, want) {
			t.Errorf("%+v: two answers share memory", x)
		}
	}
}

// TestGetOp is of "Operations as bytes": each of the nine, with names up to the limit and values of each kind, is read as it was put.
func TestGetOp(t *testing.T) {
	for _, y := range opBytes {
		if got, err := registry.GetOp(unhex(t, y.bytes)); err != api.OK || show(got) != show(y.x) {
			t.Errorf("%s: %+v, error %d", y.bytes, got, err)
		}
	}
	for kind := api.DoDeploy; kind <= api.DoReopen; kind++ {
		for _, id := range []string{"", "k", "\x00", long(api.MaxName, "k")} {
			for _, name := range []string{"", "n", "\xff\xfe", long(api.MaxName, "n")} {
				for _, v := range values() {
					x := api.Op{Kind: kind, Id: id, Name: name, Value: v}
					if kind == api.DoDeploy {
						x.Contract = loan()
					}
					if got, err := registry.GetOp(registry.PutOp(nil, x)); err != api.OK || show(got) != show(x) || !value.Same(got.Value, v) {
						t.Fatalf("%+v: %+v, error %d", x, got, err)
					}
				}
			}
		}
	}
	for _, v := range []api.Value{{Int: 7}, {Bool: true, Text: "z", Num: 2}} {
		if got, err := registry.GetOp(registry.PutOp(nil, update("k", "n", v))); err != api.OK || got.Value != (api.Value{}) {
			t.Errorf("%+v is put as none: %+v, error %d", v, got, err)
		}
	}
}

// sized is an operation of so many bytes that deploys a contract which is right: wide, with shorter texts.
func sized(t *testing.T, size int) (api.Op, []byte) {
	x := deploy(wide("c"))
	over := len(registry.PutOp(nil, x)) - size
	for i := range x.Contract.Fields {
		init := &x.Contract.Fields[i].Init
		cut := min(over, len(init.Text))
		init.Text = init.Text[cut:]
		over -= cut
	}
	row := registry.PutOp(nil, x)
	if len(row) != size || contract.Check(x.Contract) != api.OK {
		t.Fatalf("%d bytes, want %d", len(row), size)
	}
	return x, row
}

// TestGetOpLong is of "Operations as bytes": as many bytes as there may be, and one more, whatever they are.
func TestGetOpLong(t *testing.T) {
	for _, size := range []int{api.MaxOp - 1, api.MaxOp} {
		x, row := sized(t, size)
		if got, err := registry.GetOp(row); err != api.OK || show(got) != show(x) {
			t.Errorf("%d bytes: %+v, error %d", size, got, err)
		}
		if got, err := registry.GetOp(make([]byte, size)); err != api.ErrOp || show(got) != show(api.Op{}) {
			t.Errorf("%d zeros: %+v, error %d", size, got, err)
		}
	}
	for _, size := range []int{api.MaxOp + 1, api.MaxOp + 2, api.MaxOp + 50} {
		_, row := sized(t, size)
		for _, b := range [][]byte{row, make([]byte, size), make([]byte, 100*size)} {
			if got, err := registry.GetOp(b); err != api.ErrLong || show(got) != show(api.Op{}) {
				t.Errorf("%d bytes: %+v, error %d", len(b), got, err)
			}
		}
	}
}

// refusedOp holds bytes to be no operation.
func refusedOp(t *testing.T, what string, b []byte) {
	t.Helper()
	if got, err := registry.GetOp(b); err != api.ErrOp || show(got) != show(api.Op{}) {
		t.Errorf("%s: %x: %+v, error %d", what, b, got, err)
	}
}

// TestGetOpCut is of "Operations as bytes": bytes that end early, and bytes behind the end.
func TestGetOpCut(t *testing.T) {
	for _, x := range []api.Op{deploy(bare("c")), deploy(loan()), open("k", "loan"), do(api.DoClose, "k"), update("k", "sum", integer(3)), update("k", "n", text("x")), update("k", "n", num(2))} {
		row := registry.PutOp(nil, x)
		for n := range row {
			refusedOp(t, "cut", row[:n])
		}
		for _, behind := range []string{"\x00", "\x01", "\x00\x00\x00\x00\x00\x00\x00\x00", string(row)} {
			refusedOp(t, "more", append(bytes.Clone(row), behind...))
		}
	}
	refusedOp(t, "none", nil)
}

// TestGetOpWrong is of "Operations as bytes": each thing that an operation may not have, all else being right.
func TestGetOpWrong(t *testing.T) {
	for _, kind := range []int{0, -1, 10, 11, math.MaxInt, math.MinInt, 1<<32 + api.DoOpen, 1<<8 + api.DoOpen} {
		refusedOp(t, "kind", putAny(api.Op{Kind: kind, Id: "k", Name: "n"}))
		refusedOp(t, "kind, with a contract", contract.Put(putAny(api.Op{Kind: kind}), loan()))
	}
	for kind := api.DoDeploy; kind <= api.DoReopen; kind++ {
		for _, y := range []struct {
			what string
			x    api.Op
		}{
			{"id", api.Op{Id: long(api.MaxName+1, "k")}},
			{"name", api.Op{Name: long(api.MaxName+1, "k")}},
			{"value of kind 5", api.Op{Value: api.Value{Kind: 5}}},
			{"value of kind -1", api.Op{Value: api.Value{Kind: -1}}},
			{"value of a great kind", api.Op{Value: api.Value{Kind: 1<<32 + api.KindInt}}},
			{"text", api.Op{Value: text(long(api.MaxText+1, "k"))}},
		} {
			y.x.Kind, y.x.Contract = kind, bare("c")
			refusedOp(t, y.what, registry.PutOp(nil, y.x))
		}
	}
	for _, y := range []struct{ what, bytes string }{
		{"a truth of 2", i3 + "00000000 00000000" + i2 + "02"},
		{"another NaN", i3 + "00000000 00000000 0000000000000004 7ff8000000000000"},
		{"a NaN below", i3 + "00000000 00000000 0000000000000004 fff8000000000001"},
		{"a count of id far beyond", i3 + "ffffffff 00000000" + i0},
		{"a count of name far beyond", i3 + "00000000 7fffffff" + i0},
		{"an int behind none", i3 + "00000000 00000000" + i0 + i0},
	} {
		refusedOp(t, y.what, unhex(t, y.bytes))
	}
	refusedOp(t, "FF", []byte{0xff})
}

// TestGetOpContract is of "Operations as bytes": a contract stands behind a DoDeploy, and there alone, and is right.
func TestGetOpContract(t *testing.T) {
	for kind := api.DoOpen; kind <= api.DoReopen; kind++ {
		x := api.Op{Kind: kind, Id: "k", Name: "n"}
		refusedOp(t, "a contract", contract.Put(registry.PutOp(nil, x), bare("c")))
	}
	wrong := bare("c")
	wrong.Stages[0].Need = 1
	for _, c := range []api.Contract{{}, bare(""), wrong} {
		refusedOp(t, "a contract that is not right", registry.PutOp(nil, deploy(c)))
	}
	front := i1 + "00000000 00000000" + i0
	for _, y := range []struct{ what, bytes string }{
		{"without a name", "00000000 00000000 00000001 00000001 73" + i0 + "00000000 00000000"},
		{"without a stage", "00000001 63 00000000 00000000 00000000"},
		{"with a stage that needs one of nobody", "00000001 63 00000000 00000001 00000001 73" + i1 + "00000000 00000000"},
		{"of too long a name", "00000011 6363636363636363636363636363636363 00000000 00000001 00000001 73" + i0 + "00000000 00000000"},
		{"twice", bareBytes + bareBytes},
	} {
		refusedOp(t, y.what, unhex(t, front+y.bytes))
	}
	if got, err := registry.GetOp(unhex(t, front+bareBytes)); err != api.OK || show(got) != show(deploy(bare("c"))) {
		t.Errorf("a right one: %+v, error %d", got, err)
	}
}

// TestGetOpSharesNothing is of "Operations as bytes" by rule R4: the bytes stay, and what is told does not hang on them.
func TestGetOpSharesNothing(t *testing.T) {
	row := registry.PutOp(nil, deploy(loan()))
	was := bytes.Clone(row)
	one, _ := registry.GetOp(row)
	two, _ := registry.GetOp(row)
	scribbleContract(one.Contract)
	if !bytes.Equal(row, was) || show(two) != show(deploy(loan())) {
		t.Errorf("%+v", two)
	}
	clear(row)
	if show(two) != show(deploy(loan())) {
		t.Errorf("an answer hangs on what was handed in: %+v", two)
	}
}
