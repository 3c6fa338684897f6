package wire_test

import (
	"bytes"
	"encoding/hex"
	"math"
	"testing"

	"quaestor/wire"
)

// unhex makes bytes of hexadecimal digits; blanks may stand between them.
func unhex(t testing.TB, s string) []byte {
	t.Helper()
	b, err := hex.DecodeString(string(bytes.ReplaceAll([]byte(s), []byte(" "), nil)))
	if err != nil {
		t.Fatalf("%q: %v", s, err)
	}
	return b
}

// put is a call that puts something behind bytes, and the form that it ought to have.
type put struct {
	name string
	call func(b []byte) []byte
	form string
}

func putInt(n int64, form string) put {
	return put{"PutInt", func(b []byte) []byte { return wire.PutInt(b, n) }, form}
}

func putBool(x bool, form string) put {
	return put{"PutBool", func(b []byte) []byte { return wire.PutBool(b, x) }, form}
}

func putCount(n int, form string) put {
	return put{"PutCount", func(b []byte) []byte { return wire.PutCount(b, n) }, form}
}

func putBytes(x, form string) put {
	return put{"PutBytes", func(b []byte) []byte { return wire.PutBytes(b, []byte(x)) }, form}
}

func putNum(x float64, form string) put {
	return put{"PutNum", func(b []byte) []byte { return wire.PutNum(b, x) }, form}
}

func putBits(bits uint64, form string) put {
	return putNum(math.Float64frombits(bits), form)
}

// puts are calls with ordinary things and with those at the edges.
func puts() []put {
	return []put{
		putInt(0, "00 00 00 00 00 00 00 00"),
		putInt(1, "00 00 00 00 00 00 00 01"),
		putInt(-1, "ff ff ff ff ff ff ff ff"),
		putInt(-2, "ff ff ff ff ff ff ff fe"),
		putInt(0x0102030405060708, "01 02 03 04 05 06 07 08"),
		putInt(1<<31, "00 00 00 00 80 00 00 00"),
		putInt(-1<<31, "ff ff ff ff 80 00 00 00"),
		putInt(1<<40, "00 00 01 00 00 00 00 00"),
		putInt(math.MaxInt64, "7f ff ff ff ff ff ff ff"),
		putInt(math.MinInt64, "80 00 00 00 00 00 00 00"),

		putBool(false, "00"),
		putBool(true, "01"),

		putCount(0, "00 00 00 00"),
		putCount(1, "00 00 00 01"),
		putCount(255, "00 00 00 ff"),
		putCount(256, "00 00 01 00"),
		putCount(0x01020304, "01 02 03 04"),
		putCount(1<<31-1, "7f ff ff ff"),
		putCount(1<<31, "80 00 00 00"),
		putCount(1<<32-1, "ff ff ff ff"),
		putCount(1<<32, "ff ff ff ff"),
		putCount(1<<32+5, "ff ff ff ff"),
		putCount(math.MaxInt, "ff ff ff ff"),
		putCount(-1, "00 00 00 00"),
		putCount(-5, "00 00 00 00"),
		putCount(math.MinInt, "00 00 00 00"),
		putCount(math.MinInt+7, "00 00 00 00"),

		putBytes("", "00 00 00 00"),
		putBytes("ab", "00 00 00 02 61 62"),
		putBytes("\x00", "00 00 00 01 00"),
		putBytes("\xff\x00\xfe", "00 00 00 03 ff 00 fe"),

		putNum(0, "00 00 00 00 00 00 00 00"),
		putNum(math.Copysign(0, -1), "80 00 00 00 00 00 00 00"),
		putNum(1, "3f f0 00 00 00 00 00 00"),
		putNum(-1.5, "bf f8 00 00 00 00 00 00"),
		putNum(math.Pi, "40 09 21 fb 54 44 2d 18"),
		putNum(math.MaxFloat64, "7f ef ff ff ff ff ff ff"),
		putNum(math.SmallestNonzeroFloat64, "00 00 00 00 00 00 00 01"),
		putNum(math.Inf(1), "7f f0 00 00 00 00 00 00"),
		putNum(math.Inf(-1), "ff f0 00 00 00 00 00 00"),
		putNum(math.NaN(), "7f f8 00 00 00 00 00 01"),
		putBits(0x7ff8000000000000, "7f f8 00 00 00 00 00 01"),
		putBits(0xfff8000000000001, "7f f8 00 00 00 00 00 01"),
		putBits(0x7ff0000000000001, "7f f8 00 00 00 00 00 01"),
		putBits(0xffffffffffffffff, "7f f8 00 00 00 00 00 01"),
	}
}

// TestPutForms is of promise 1.1: of each thing its form, behind whatever bytes stand ahead.
func TestPutForms(t *testing.T) {
	for i, p := range puts() {
		form := unhex(t, p.form)
		for _, front := range []string{"", "x", "\x00\x00", "a longer row of bytes, all of which must stay"} {
			want := append([]byte(front), form...)
			if got := p.call([]byte(front)); !bytes.Equal(got, want) {
				t.Errorf("%s (row %d) behind %q: %x, want %x", p.name, i, front, got, want)
			}
		}
		if got := p.call(nil); !bytes.Equal(got, form) {
			t.Errorf("%s (row %d) behind none: %x, want %x", p.name, i, got, form)
		}
	}
}

// TestPutBytesLong is of promise 1.1: the number of bytes takes more than one byte.
func TestPutBytesLong(t *testing.T) {
	x := bytes.Repeat([]byte{7}, 1<<16+258)
	got := wire.PutBytes([]byte{9}, x)
	if want := append([]byte{9, 0, 1, 1, 2}, x...); !bytes.Equal(got, want) {
		t.Fatalf("%d bytes, beginning with %x", len(got), got[:5])
	}
}

// TestPutLeavesWhatIsHandedIn is of promise 1.1 by rule R4: neither the bytes ahead, nor what lies behind their end, nor the bytes that are put are changed.
func TestPutLeavesWhatIsHandedIn(t *testing.T) {
	for i, p := range puts() {
		back := bytes.Repeat([]byte{0xaa}, 64)
		p.call(back[:5])
		if !bytes.Equal(back, bytes.Repeat([]byte{0xaa}, 64)) {
			t.Errorf("%s (row %d) wrote into what it was handed: %x", p.name, i, back)
		}
	}
	x := []byte("abcdef")
	wire.PutBytes(nil, x[:3])
	wire.PutBytes(x[:2], x[:4])
	if string(x) != "abcdef" {
		t.Errorf("PutBytes changed what it puts: %q", x)
	}
}

// TestPutAnswersNewMemory is of promise 1.1 by rule R4: an answer shares nothing with what was handed in, nor with another answer.
func TestPutAnswersNewMemory(t *testing.T) {
	for i, p := range puts() {
		front := append(make([]byte, 0, 64), 1, 2, 3)
		one := p.call(front)
		two := p.call(front)
		want := bytes.Clone(two)
		for j := range one {
			one[j] ^= 0xff
		}
		if !bytes.Equal(front, []byte{1, 2, 3}) {
			t.Errorf("%s (row %d): the answer shares memory with what was handed in", p.name, i)
		}
		if !bytes.Equal(two, want) {
			t.Errorf("%s (row %d): two answers share memory", p.name, i)
		}
	}
	for _, front := range [][]byte{nil, {}, {5}} {
		x := []byte("ab")
		got := wire.PutBytes(front, x)
		want := bytes.Clone(got)
		x[0], x[1] = 0, 0
		if !bytes.Equal(got, want) {
			t.Error("PutBytes: the answer shares memory with the bytes that were put")
		}
	}
	b := []byte("ab")
	if got := wire.PutBytes(b, b); string(got) != "ab\x00\x00\x00\x02ab" {
		t.Errorf("PutBytes of the bytes ahead themselves: %q", got)
	}
}

// TestPutsBehindOneAnother is of promise 1.1 by rule R4: two rows that grow from one beginning know nothing of one another.
func TestPutsBehindOneAnother(t *testing.T) {
	start := wire.PutBool(wire.PutInt(nil, 7), true)
	one := wire.PutCount(start, 1)
	two := wire.PutCount(start, 2)
	if want := unhex(t, "00 00 00 00 00 00 00 07 01 00 00 00 01"); !bytes.Equal(one, want) {
		t.Errorf("one: %x, want %x", one, want)
	}
	if want := unhex(t, "00 00 00 00 00 00 00 07 01 00 00 00 02"); !bytes.Equal(two, want) {
		t.Errorf("two: %x, want %x", two, want)
	}
}
