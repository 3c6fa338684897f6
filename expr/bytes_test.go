package expr_test

import (
	"bytes"
	"encoding/hex"
	"math"
	"strings"
	"testing"

	"quaestor/api"
	"quaestor/expr"
	"quaestor/value"
	"quaestor/wire"
)

// unhex makes bytes of hexadecimal digits; blanks may stand between them.
func unhex(t testing.TB, s string) []byte {
	t.Helper()
	row, err := hex.DecodeString(strings.ReplaceAll(s, " ", ""))
	if err != nil {
		t.Fatalf("%q: %v", s, err)
	}
	return row
}

// form is an expression and the bytes that it ought to have.
type form struct {
	e     api.Expr
	bytes string
}

// noVal are the bytes of Value{}.
const noVal = "0000000000000000"

// forms have in all what Put writes in two ways: whether they are right is not asked.
func forms() []form {
	return []form{
		{api.Expr{}, "0000000000000000 00000000 00000000" + noVal},
		{anInt(-2), "0000000000000001 00000000 00000000 0000000000000001 fffffffffffffffe"},
		{aTruth(true), "0000000000000001 00000000 00000000 0000000000000002 01"},
		{aText("ab"), "0000000000000001 00000000 00000000 0000000000000003 00000002 6162"},
		{aNum(minusNought()), "0000000000000001 00000000 00000000 0000000000000004 8000000000000000"},
		{constant(ofBits(theNaN)), "0000000000000001 00000000 00000000 0000000000000004 7ff8000000000001"},
		{field("ab"), "0000000000000002 00000000 00000002 6162" + noVal},
		{field(""), "0000000000000002 00000000 00000000" + noVal},
		{field(long(api.MaxName)), "0000000000000002 00000000 00000010" + strings.Repeat("6d", 16) + noVal},
		{op(api.OpNeg, field("a")), "0000000000000003 00000001 00000000" + noVal + "0000000000000002 00000000 00000001 61" + noVal},
		{op(api.OpSub, anInt(1), field("a")), "0000000000000005 00000002 00000000" + noVal +
			"0000000000000001 00000000 00000000 0000000000000001 0000000000000001" +
			"0000000000000002 00000000 00000001 61" + noVal},
		{op(api.OpIf, op(api.OpNot, aTruth(false)), aText(""), field("b")), "000000000000000d 00000003 00000000" + noVal +
			"000000000000000c 00000001 00000000" + noVal +
			"0000000000000001 00000000 00000000 0000000000000002 00" +
			"0000000000000001 00000000 00000000 0000000000000003 00000000" +
			"0000000000000002 00000000 00000001 62" + noVal},

		{api.Expr{Op: -1, Name: "\x00\xff", Val: truth(false), Kids: []api.Expr{{Op: math.MaxInt}}}, "ffffffffffffffff 00000001 00000002 00ff 0000000000000002 00" +
			"7fffffffffffffff 00000000 00000000" + noVal},
		{api.Expr{Op: api.OpConst, Name: "a", Kids: []api.Expr{anInt(1)}}, "0000000000000001 00000001 00000001 61" + noVal +
			"0000000000000001 00000000 00000000 0000000000000001 0000000000000001"},
	}
}

// oneWay have bytes from which they are not got again.
func oneWay() []form {
	return []form{
		{constant(api.Value{Int: 1, Bool: true, Text: "x", Num: 2}), "0000000000000001 00000000 00000000" + noVal},
		{constant(api.Value{Kind: api.KindInt, Int: 1, Text: "x"}), "0000000000000001 00000000 00000000 0000000000000001 0000000000000001"},
		{constant(ofBits(math.MaxUint64)), "0000000000000001 00000000 00000000 0000000000000004 7ff8000000000001"},
		{constant(api.Value{Kind: 5, Int: 1}), "0000000000000001 00000000 00000000 0000000000000005"},
		{aText(long(33)), "0000000000000001 00000000 00000000 0000000000000003 00000021" + strings.Repeat("6d", 33)},
		{field(long(17)), "0000000000000002 00000000 00000011" + strings.Repeat("6d", 17) + noVal},
		{op(api.OpAdd, api.Expr{}, api.Expr{}, api.Expr{}, api.Expr{}), "0000000000000004 00000004 00000000" + noVal + strings.Repeat("0000000000000000 00000000 00000000"+noVal, 4)},
	}
}

// TestPut is of promise 5.3: of each part, ahead of its kids, its form, behind whatever bytes stand ahead.
func TestPut(t *testing.T) {
	for _, y := range append(forms(), oneWay()...) {
		for _, front := range []string{"", "x", "\x00\x00", "a longer row of bytes, all of which must stay"} {
			want := append([]byte(front), unhex(t, y.bytes)...)
			if got := expr.Put([]byte(front), y.e); !bytes.Equal(got, want) {
				t.Errorf("%v behind %q: %x, want %x", y.e, front, got, want)
			}
		}
		if got := expr.Put(nil, y.e); !bytes.Equal(got, unhex(t, y.bytes)) {
			t.Errorf("%v behind none: %x", y.e, got)
		}
	}
}

// TestPutSize is of promise 5.3: the largest that is small has bytes, and one that is not has none.
func TestPutSize(t *testing.T) {
	for _, e := range []api.Expr{bush(api.MaxNodes, anInt(1)), chain(api.MaxDeep, anInt(1)), wide(api.OpAdd, api.MaxNodes-1)} {
		if got := expr.Put([]byte("front"), e); len(got) <= len("front") {
			t.Errorf("%v: %x", e, got)
		}
	}
	for i, e := range large() {
		for _, front := range []string{"", "front"} {
			if got := expr.Put([]byte(front), e); string(got) != front {
				t.Errorf("large %d behind %q: %x", i, front, got)
			}
		}
	}
}

// TestPutSharesNothing is of promise 5.3 by rule R4: what is handed in stays, behind its end, too, and an answer is new memory.
func TestPutSharesNothing(t *testing.T) {
	for _, e := range []api.Expr{anInt(1), bush(api.MaxNodes, aText("abc")), chain(api.MaxDeep+1, anInt(1))} {
		back := bytes.Repeat([]byte{0xaa}, 2000)
		one := expr.Put(back[:3], e)
		two := expr.Put(back[:3], e)
		want := bytes.Clone(two)
		for i := range one {
			one[i] ^= 0xff
		}
		_ = append(one, "behind the end"...)
		if !bytes.Equal(back, bytes.Repeat([]byte{0xaa}, 2000)) {
			t.Errorf("%v: what was handed in is changed", e)
		}
		if !bytes.Equal(two, want) {
			t.Errorf("%v: two answers share memory", e)
		}
	}
}

// TestGet is of promise 5.3: the expression that stands at the front; the reader is behind it then.
func TestGet(t *testing.T) {
	l := forms()
	for _, e := range []api.Expr{bush(api.MaxNodes, aText(long(api.MaxText))), chain(api.MaxDeep, field("a"))} {
		l = append(l, form{e, hex.EncodeToString(expr.Put(nil, e))})
	}
	for _, y := range l {
		for _, behind := range []string{"", "\x00", "more of them"} {
			r := wire.New(append(unhex(t, y.bytes), behind...))
			got, err := expr.Get(r)
			if !alike(got, y.e) || err != api.OK || r.Err() != api.OK || r.Left() != len(behind) {
				t.Errorf("%s: %v, error %d (the reader's %d, left %d), want %v", y.bytes, got, err, r.Err(), r.Left(), y.e)
			}
		}
	}
}

// TestGetShort is of promise 5.3: bytes that end within an expression, wherever they do.
func TestGetShort(t *testing.T) {
	for _, y := range forms() {
		whole := unhex(t, y.bytes)
		for cut := range whole {
			r := wire.New(whole[:cut])
			if got, err := expr.Get(r); !empty(got) || err != api.ErrShort || r.Err() != api.ErrShort {
				t.Errorf("%s cut at %d: %v, error %d (the reader's %d)", y.bytes, cut, got, err, r.Err())
			}
		}
	}
}

// TestGetErrors is of promise 5.3: which error there is, beside the zero value, as the first part and behind others.
func TestGetErrors(t *testing.T) {
	front := "0000000000000004 00000002 00000000" + noVal + "0000000000000001 00000000 00000000 0000000000000001 0000000000000001"
	for _, y := range []struct {
		bytes string
		want  api.Errno
	}{
		{"0000000000000004 00000004 00000000" + noVal, api.ErrLong},
		{"0000000000000004 ffffffff 00000000" + noVal, api.ErrLong},
		{"0000000000000004 00000004", api.ErrLong},
		{"0000000000000002 00000000 00000011" + strings.Repeat("6d", 17) + noVal, api.ErrLong},
		{"0000000000000002 00000000 00000011 6d", api.ErrLong},
		{"0000000000000002 00000000 ffffffff", api.ErrLong},
		{"0000000000000001 00000000 00000000 0000000000000003 00000021" + strings.Repeat("6d", 33), api.ErrLong},
		{"0000000000000001 00000000 00000000 0000000000000003 00000021", api.ErrLong},

		{"0000000000000001 00000000 00000000 0000000000000002 02", api.ErrForm},
		{"0000000000000001 00000000 00000000 0000000000000004 7ff8000000000000", api.ErrForm},
		{"0000000000000001 00000000 00000000 0000000000000005 0000000000000000", api.ErrForm},
		{"0000000000000004 00000002 00000000 0000000000000005", api.ErrForm},
		{"0000000000000001 00000000 00000000 ffffffffffffffff 00", api.ErrForm},
		{"0000000000000001 00000000 00000000 0000000100000000 00", api.ErrForm},
		{"0000000000000001 00000000 00000000 8000000000000000 00", api.ErrForm},

		{"0000000000000004 00000004 00000000 0000000000000005", api.ErrLong},
		{"0000000000000002 00000000 00000011 0000000000000005", api.ErrLong},
		{"0000000000000004 00000003 00000000 0000000000000005", api.ErrForm},
	} {
		for _, ahead := range []string{"", front} {
			if got, err := expr.Get(wire.New(unhex(t, ahead+y.bytes))); !empty(got) || err != y.want {
				t.Errorf("%s: %v, error %d, want %d", ahead+y.bytes, got, err, y.want)
			}
		}
	}
}

// putAny puts expressions that are not small, too.
func putAny(row []byte, e api.Expr) []byte {
	row = wire.PutCount(wire.PutInt(row, int64(e.Op)), len(e.Kids))
	row = value.Put(wire.PutBytes(row, []byte(e.Name)), e.Val)
	for _, kid := range e.Kids {
		row = putAny(row, kid)
	}
	return row
}

// TestGetDeep is of promise 5.3: where the part too many begins, whatever its own bytes are, and though there are none.
func TestGetDeep(t *testing.T) {
	leaf := anInt(1)
	size := len(putAny(nil, leaf))
	for _, e := range []api.Expr{chain(api.MaxDeep+1, leaf), bush(api.MaxNodes+1, leaf)} {
		whole := putAny(nil, e)
		for _, behind := range []string{"", "\xff", strings.Repeat("\xff", size), string(whole)} {
			r := wire.New(append(whole[:len(whole)-size:len(whole)-size], behind...))
			left := r.Left()
			if got, err := expr.Get(r); !empty(got) || err != api.ErrDeep || r.Err() != api.OK || r.Left() != left {
				t.Errorf("%v: %v, error %d (the reader's %d, left %d of %d)", e, got, err, r.Err(), r.Left(), left)
			}
		}
		if got, err := expr.Get(wire.New(whole[:len(whole)-size-1])); !empty(got) || err != api.ErrShort {
			t.Errorf("%v cut ahead of its last part: %v, error %d", e, got, err)
		}
	}
	for i, e := range tooMany() {
		if got, err := expr.Get(wire.New(putAny(nil, e))); !empty(got) || err != api.ErrDeep {
			t.Errorf("too many %d: %v, error %d", i, got, err)
		}
	}
}

// TestGetErrorChangesNothing is of promise 5.3 by rule R2: where the reader itself has not failed it is where it was.
func TestGetErrorChangesNothing(t *testing.T) {
	for _, row := range [][]byte{
		putAny(nil, chain(api.MaxDeep+1, anInt(1))),
		putAny(nil, bush(api.MaxNodes+1, anInt(1))),
		putAny(nil, constant(api.Value{Kind: 5})),
		putAny(nil, op(api.OpAdd, anInt(1), constant(api.Value{Kind: -1}))),
	} {
		r := wire.New(append(wire.PutInt(nil, 9), row...))
		if r.Int() != 9 {
			t.Fatalf("error %d", r.Err())
		}
		_, one := expr.Get(r)
		_, two := expr.Get(r)
		if one == api.OK || two != one || r.Err() != api.OK || r.Left() != len(row) {
			t.Errorf("%x: errors %d, %d (the reader's %d, left %d)", row, one, two, r.Err(), r.Left())
		}
		if got := int(r.Int()); got != int(row[7]) || r.Err() != api.OK {
			t.Errorf("%x: %d stands at its front (error %d)", row, got, r.Err())
		}
	}
}

// TestGetOfFailedReader is of promise 5.3: the error that a reader has already is told, whatever stands there.
func TestGetOfFailedReader(t *testing.T) {
	for _, y := range forms() {
		for want, fail := range map[api.Errno]func(r *wire.Reader){
			api.ErrShort: func(r *wire.Reader) { r.Bytes(math.MaxInt) },
			api.ErrForm:  func(r *wire.Reader) { r.Bool() },
			api.ErrLong:  func(r *wire.Reader) { r.Count(0) },
			api.ErrMore:  func(r *wire.Reader) { r.End() },
		} {
			row := append([]byte{0x7f, 0xff, 0xff, 0xff}, unhex(t, y.bytes)...)
			r := wire.New(row)
			fail(r)
			if got, err := expr.Get(r); !empty(got) || err != want || r.Err() != want || r.Left() != len(row) {
				t.Errorf("%s: %v, error %d, want %d", y.bytes, got, err, want)
			}
		}
	}
}

// TestGetOfNoReader is of promise 5.3 and rule R1: a reader without bytes, and none, has no expression, and nothing panics.
func TestGetOfNoReader(t *testing.T) {
	for _, r := range []*wire.Reader{nil, {}, wire.New(nil)} {
		if got, err := expr.Get(r); !empty(got) || err != api.ErrShort {
			t.Errorf("%v, error %d", got, err)
		}
	}
}

// TestGetAnswersNewMemory is of promise 5.3 by rule R4: two answers of the same bytes share nothing.
func TestGetAnswersNewMemory(t *testing.T) {
	e := op(api.OpIf, field("b"), op(api.OpAdd, anInt(1), anInt(2)), anInt(3))
	row := expr.Put(nil, e)
	one, _ := expr.Get(wire.New(row))
	two, _ := expr.Get(wire.New(row))
	one.Kids[1].Kids[0] = aText("z")
	one.Kids[0].Name = "z"
	_ = append(one.Kids[1].Kids[:1], aText("z"))
	if !alike(two, e) || !bytes.Equal(row, expr.Put(nil, e)) {
		t.Errorf("%v, %x", two, row)
	}
}

// FuzzGet is of promises 5.3 and 5.4: whatever the bytes are, what is got from them is small, and has, when it is put, the bytes that the reader went over.
func FuzzGet(f *testing.F) {
	for _, y := range append(forms(), oneWay()...) {
		f.Add(unhex(f, y.bytes))
	}
	f.Add(putAny(nil, bush(api.MaxNodes, anInt(1))))
	f.Add(putAny(nil, bush(api.MaxNodes+1, anInt(1))))
	f.Add(putAny(nil, chain(api.MaxDeep, anInt(1))))
	f.Fuzz(func(t *testing.T, row []byte) {
		r := wire.New(row)
		e, err := expr.Get(r)
		if err != api.OK {
			if !empty(e) || r.Err() == api.OK && r.Left() != len(row) {
				t.Fatalf("%x: %v beside error %d (left %d)", row, e, err, r.Left())
			}
			return
		}
		if _, err := expr.Check(e, nil); err == api.ErrDeep {
			t.Fatalf("%x: %v is not small", row, e)
		}
		if went := row[:len(row)-r.Left()]; !bytes.Equal(expr.Put(nil, e), went) {
			t.Fatalf("%x: %v", row, e)
		}
	})
}
