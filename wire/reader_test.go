package wire_test

import (
	"bytes"
	"math"
	"testing"

	"quaestor/api"
	"quaestor/wire"
)

// read is a call of a reader that takes something.
type read struct {
	name string
	call func(r *wire.Reader) any
}

func readInt() read {
	return read{"Int", func(r *wire.Reader) any { return r.Int() }}
}

func readBool() read {
	return read{"Bool", func(r *wire.Reader) any { return r.Bool() }}
}

func readCount(most int) read {
	return read{"Count", func(r *wire.Reader) any { return r.Count(most) }}
}

func readBytes(most int) read {
	return read{"Bytes", func(r *wire.Reader) any { return string(r.Bytes(most)) }}
}

// readNum tells a float's bits, by which NaNs and noughts can be told apart.
func readNum() read {
	return read{"Num", func(r *wire.Reader) any { return math.Float64bits(r.Num()) }}
}

// TestReadOne is of promise 1.2: one thing that stands at the front, with bytes behind it that stay.
func TestReadOne(t *testing.T) {
	rows := []struct {
		bytes string
		read  read
		want  any
		left  int
	}{
		{"00 00 00 00 00 00 00 00", readInt(), int64(0), 0},
		{"ff ff ff ff ff ff ff fe", readInt(), int64(-2), 0},
		{"01 02 03 04 05 06 07 08 09", readInt(), int64(0x0102030405060708), 1},
		{"7f ff ff ff ff ff ff ff", readInt(), int64(math.MaxInt64), 0},
		{"80 00 00 00 00 00 00 00 00 00", readInt(), int64(math.MinInt64), 2},

		{"00", readBool(), false, 0},
		{"01", readBool(), true, 0},
		{"01 02", readBool(), true, 1},

		{"00 00 00 00", readCount(0), 0, 0},
		{"00 00 00 00", readCount(-1), 0, 0},
		{"00 00 00 00", readCount(math.MinInt), 0, 0},
		{"00 00 00 03", readCount(3), 3, 0},
		{"00 00 00 03", readCount(4), 3, 0},
		{"01 02 03 04 05", readCount(math.MaxInt), 0x01020304, 1},
		{"80 00 00 00", readCount(1 << 31), 1 << 31, 0},
		{"ff ff ff ff", readCount(1<<32 - 1), 1<<32 - 1, 0},
		{"ff ff ff ff", readCount(math.MaxInt), 1<<32 - 1, 0},

		{"00 00 00 00", readBytes(0), "", 0},
		{"00 00 00 00 61", readBytes(-3), "", 1},
		{"00 00 00 00 61", readBytes(math.MinInt), "", 1},
		{"00 00 00 02 61 62", readBytes(2), "ab", 0},
		{"00 00 00 02 61 62 63", readBytes(3), "ab", 1},
		{"00 00 00 01 00 00", readBytes(math.MaxInt), "\x00", 1},

		{"00 00 00 00 00 00 00 00", readNum(), uint64(0), 0},
		{"80 00 00 00 00 00 00 00", readNum(), uint64(1 << 63), 0},
		{"3f f0 00 00 00 00 00 00 00", readNum(), math.Float64bits(1), 1},
		{"00 00 00 00 00 00 00 01", readNum(), uint64(1), 0},
		{"7f f0 00 00 00 00 00 00", readNum(), uint64(0x7ff0000000000000), 0},
		{"ff f0 00 00 00 00 00 00", readNum(), uint64(0xfff0000000000000), 0},
		{"7f ef ff ff ff ff ff ff", readNum(), math.Float64bits(math.MaxFloat64), 0},
		{"7f f8 00 00 00 00 00 01", readNum(), uint64(0x7ff8000000000001), 0},
	}
	for _, x := range rows {
		r := wire.New(unhex(t, x.bytes))
		if got := x.read.call(r); got != x.want || r.Err() != api.OK || r.Left() != x.left {
			t.Errorf("%s of %s: %v (error %d, left %d), want %v (left %d)", x.read.name, x.bytes, got, r.Err(), r.Left(), x.want, x.left)
		}
	}
}

// TestReadRow is of promise 1.2: behind each thing the reader is at the next one, and tells what is left.
func TestReadRow(t *testing.T) {
	r := wire.New(unhex(t, "ff ff ff ff ff ff ff fe 01 00 00 00 03 00 00 00 02 61 62 80 00 00 00 00 00 00 00 00"))
	if r.Left() != 28 || r.Err() != api.OK {
		t.Fatalf("at first: left %d, error %d", r.Left(), r.Err())
	}
	steps := []struct {
		read read
		want any
		left int
	}{
		{readInt(), int64(-2), 20},
		{readBool(), true, 19},
		{readCount(3), 3, 15},
		{readBytes(2), "ab", 9},
		{readNum(), uint64(1 << 63), 1},
		{readBool(), false, 0},
	}
	for _, x := range steps {
		if got := x.read.call(r); got != x.want || r.Left() != x.left || r.Err() != api.OK {
			t.Fatalf("%s: %v (error %d, left %d), want %v (left %d)", x.read.name, got, r.Err(), r.Left(), x.want, x.left)
		}
	}
	r.End()
	if r.Err() != api.OK || r.Left() != 0 {
		t.Fatalf("at the end: left %d, error %d", r.Left(), r.Err())
	}
}

// fault is a call that has an error at the front of some bytes.
type fault struct {
	bytes string
	read  read
	err   api.Errno
}

func faults() []fault {
	end := read{"End", func(r *wire.Reader) any { r.End(); return false }}
	return []fault{
		{"", readInt(), api.ErrShort},
		{"00 00 00 00 00 00 01", readInt(), api.ErrShort},
		{"", readBool(), api.ErrShort},
		{"", readCount(9), api.ErrShort},
		{"00 00 01", readCount(0), api.ErrShort},
		{"", readBytes(9), api.ErrShort},
		{"ff ff ff", readBytes(-1), api.ErrShort},
		{"00 00 00 05 61", readBytes(5), api.ErrShort},
		{"00 00 00 01", readBytes(1), api.ErrShort},
		{"00 00 00 03 61 62", readBytes(math.MaxInt), api.ErrShort},
		{"ff ff ff ff 61 62", readBytes(math.MaxInt), api.ErrShort},
		{"ff ff ff fc 61 62", readBytes(math.MaxInt), api.ErrShort},
		{"", readNum(), api.ErrShort},
		{"ff ff ff ff ff ff ff", readNum(), api.ErrShort},

		{"02", readBool(), api.ErrForm},
		{"80 01", readBool(), api.ErrForm},
		{"ff", readBool(), api.ErrForm},
		{"7f f8 00 00 00 00 00 00", readNum(), api.ErrForm},
		{"7f f8 00 00 00 00 00 02", readNum(), api.ErrForm},
		{"7f f0 00 00 00 00 00 01", readNum(), api.ErrForm},
		{"ff f8 00 00 00 00 00 01 00", readNum(), api.ErrForm},
		{"ff ff ff ff ff ff ff ff", readNum(), api.ErrForm},

		{"00 00 00 04", readCount(3), api.ErrLong},
		{"00 00 00 01", readCount(0), api.ErrLong},
		{"00 00 00 01", readCount(-1), api.ErrLong},
		{"00 00 00 01", readCount(math.MinInt), api.ErrLong},
		{"ff ff ff ff", readCount(1<<32 - 2), api.ErrLong},
		{"ff ff ff ff", readCount(-1), api.ErrLong},
		{"00 00 00 05 61", readBytes(4), api.ErrLong},
		{"00 00 00 02 61 62", readBytes(1), api.ErrLong},
		{"00 00 00 01 61", readBytes(0), api.ErrLong},
		{"00 00 00 01 61", readBytes(-1), api.ErrLong},
		{"ff ff ff ff 61", readBytes(1 << 24), api.ErrLong},
		{"ff ff ff ff 61", readBytes(math.MinInt), api.ErrLong},

		{"00", end, api.ErrMore},
		{"01 02 03", end, api.ErrMore},
	}
}

// isZero tells whether an answer of a read is its kind's zero value.
func isZero(x any) bool {
	return x == int64(0) || x == false || x == 0 || x == "" || x == uint64(0)
}

// TestReadFaults is of promise 1.2: which error there is, beside a zero value, and that the reader stays where it was.
func TestReadFaults(t *testing.T) {
	for _, x := range faults() {
		b := unhex(t, x.bytes)
		r := wire.New(b)
		if got := x.read.call(r); !isZero(got) || r.Err() != x.err || r.Left() != len(b) {
			t.Errorf("%s of %s: %v (error %d, left %d), want error %d, left %d", x.read.name, x.bytes, got, r.Err(), r.Left(), x.err, len(b))
		}
	}
}

// TestReadFaultsBehindOthers is of promise 1.2: an error behind things that were read leaves the reader behind these.
func TestReadFaultsBehindOthers(t *testing.T) {
	for _, x := range faults() {
		b := unhex(t, x.bytes)
		r := wire.New(append(wire.PutBytes(wire.PutInt(nil, -7), []byte("abc")), b...))
		if r.Int() != -7 || string(r.Bytes(3)) != "abc" || r.Err() != api.OK {
			t.Fatalf("ahead of %s: error %d", x.bytes, r.Err())
		}
		if got := x.read.call(r); !isZero(got) || r.Err() != x.err || r.Left() != len(b) {
			t.Errorf("%s of %s: %v (error %d, left %d), want error %d, left %d", x.read.name, x.bytes, got, r.Err(), r.Left(), x.err, len(b))
		}
	}
}

// TestFirstErrorStays is of promise 1.2: with an error every call answers its zero value and does nothing, though good bytes, or none, may stand there.
func TestFirstErrorStays(t *testing.T) {
	later := []read{
		readInt(), readBool(), readCount(math.MaxInt), readCount(0), readBytes(math.MaxInt), readBytes(0), readNum(),
		{"End", func(r *wire.Reader) any { r.End(); return false }},
	}
	for _, x := range faults() {
		b := unhex(t, x.bytes)
		r := wire.New(b)
		x.read.call(r)
		for _, y := range later {
			if got := y.call(r); !isZero(got) || r.Err() != x.err || r.Left() != len(b) {
				t.Errorf("%s behind %s of %s: %v (error %d, left %d), want error %d, left %d", y.name, x.read.name, x.bytes, got, r.Err(), r.Left(), x.err, len(b))
			}
		}
	}
	r := wire.New(unhex(t, "01 01 01 01 01 01 01 01 01 01 01 01"))
	r.End()
	for _, y := range later {
		if got := y.call(r); !isZero(got) || r.Err() != api.ErrMore || r.Left() != 12 {
			t.Errorf("%s behind End: %v (error %d, left %d)", y.name, got, r.Err(), r.Left())
		}
	}
}

// TestEnd is of promise 1.2: End takes nothing, and has no error where nothing is left.
func TestEnd(t *testing.T) {
	r := wire.New(nil)
	r.End()
	r.End()
	if r.Err() != api.OK || r.Left() != 0 {
		t.Fatalf("of none: error %d, left %d", r.Err(), r.Left())
	}
	r = wire.New([]byte{1})
	if !r.Bool() {
		t.Fatal("a truth")
	}
	r.End()
	if r.Err() != api.OK {
		t.Fatalf("behind the last thing: error %d", r.Err())
	}
	if r.Bool() || r.Err() != api.ErrShort {
		t.Fatalf("behind the end: error %d, want %d", r.Err(), api.ErrShort)
	}
}

// TestNilReader is of promise 1.2 by rule R1: it has no bytes, and none of its calls panics.
func TestNilReader(t *testing.T) {
	var r *wire.Reader
	if r.Err() != api.OK || r.Left() != 0 {
		t.Fatalf("error %d, left %d", r.Err(), r.Left())
	}
	for _, y := range []read{readInt(), readBool(), readCount(5), readCount(-5), readBytes(5), readBytes(-5), readNum()} {
		if got := y.call(r); !isZero(got) {
			t.Errorf("%s: %v", y.name, got)
		}
	}
	r.End()
	if r.Left() != 0 {
		t.Errorf("left %d", r.Left())
	}
}

// TestReaderNotMade is of promise 1.2: one that New did not make has no bytes.
func TestReaderNotMade(t *testing.T) {
	for _, y := range []read{readInt(), readBool(), readCount(5), readBytes(5), readNum()} {
		var r wire.Reader
		r.End()
		if r.Err() != api.OK || r.Left() != 0 {
			t.Fatalf("at first: error %d, left %d", r.Err(), r.Left())
		}
		if got := y.call(&r); !isZero(got) || r.Err() != api.ErrShort || r.Left() != 0 {
			t.Errorf("%s: %v (error %d, left %d)", y.name, got, r.Err(), r.Left())
		}
	}
}

// TestReaderKeepsNothingHandedIn is of promise 1.2 by rule R4: what becomes of the bytes handed in does not matter to the reader, and the reader changes none.
func TestReaderKeepsNothingHandedIn(t *testing.T) {
	back := wire.PutBytes(wire.PutInt(nil, 9), []byte("abc"))
	was := bytes.Clone(back)
	r := wire.New(back)
	got := r.Int()
	text := r.Bytes(3)
	text[0] = 'z'
	if got != 9 || !bytes.Equal(back, was) {
		t.Fatalf("%d, %x", got, back)
	}
	r = wire.New(back)
	for i := range back {
		back[i] = 0xff
	}
	if r.Int() != 9 || string(r.Bytes(3)) != "abc" || r.Err() != api.OK {
		t.Error("the reader keeps what it was handed")
	}
}

// TestReaderAnswersNewMemory is of promise 1.2 by rule R4: what Bytes answers shares nothing with the reader, nor with another answer.
func TestReaderAnswersNewMemory(t *testing.T) {
	r := wire.New(wire.PutBytes(wire.PutBytes(nil, []byte("ab")), []byte("cd")))
	one := r.Bytes(2)
	one = append(one, "zzzzzzzz"...)
	one[0] = 'y'
	two := r.Bytes(2)
	if string(two) != "cd" || r.Err() != api.OK {
		t.Fatalf("%q (error %d)", two, r.Err())
	}
	two[0] = 'x'
	if string(one) != "ybzzzzzzzz" {
		t.Errorf("%q", one)
	}
}

// TestReaderEndsWhereBytesEnd is of promise 1.2 by rule R4: what lies behind the end of the bytes handed in is not theirs.
func TestReaderEndsWhereBytesEnd(t *testing.T) {
	back := wire.PutBytes(nil, []byte("abcd"))
	r := wire.New(back[:6])
	if r.Left() != 6 || len(r.Bytes(4)) != 0 || r.Err() != api.ErrShort {
		t.Errorf("error %d, left %d", r.Err(), r.Left())
	}
}

// TestReadersApart is of promise 1.2 by rule R5: two readers of the same bytes know nothing of one another.
func TestReadersApart(t *testing.T) {
	b := []byte{1, 2}
	one, two := wire.New(b), wire.New(b)
	if !one.Bool() || one.Bool() || one.Err() != api.ErrForm {
		t.Fatalf("one: error %d", one.Err())
	}
	if two.Left() != 2 || two.Err() != api.OK || !two.Bool() {
		t.Fatalf("two: error %d, left %d", two.Err(), two.Left())
	}
}
