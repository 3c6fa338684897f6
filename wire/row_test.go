package wire_test

import (
	"bytes"
	"math"
	"testing"

	"quaestor/api"
	"quaestor/wire"
)

// thing is something that may be put and read; two are the same just if they are ==.
type thing struct {
	kind byte // i, b, c, t or n
	n    int64
	text string
	bits uint64
}

func (x thing) put(b []byte) []byte {
	switch x.kind {
	case 'i':
		return wire.PutInt(b, x.n)
	case 'b':
		return wire.PutBool(b, x.n == 1)
	case 'c':
		return wire.PutCount(b, int(x.n))
	case 't':
		return wire.PutBytes(b, []byte(x.text))
	}
	return wire.PutNum(b, math.Float64frombits(x.bits))
}

// read reads a thing of x's kind.
func (x thing) read(r *wire.Reader) thing {
	y := thing{kind: x.kind}
	switch x.kind {
	case 'i':
		y.n = r.Int()
	case 'b':
		if r.Bool() {
			y.n = 1
		}
	case 'c':
		y.n = int64(r.Count(math.MaxInt))
	case 't':
		y.text = string(r.Bytes(math.MaxInt))
	default:
		y.bits = math.Float64bits(r.Num())
	}
	return y
}

// things are of all kinds; every float's bits are those that are put.
func things() []thing {
	var l []thing
	for _, n := range []int64{0, 1, -1, 2, 255, 256, 1 << 31, 1 << 40, -1 << 40, math.MaxInt64, math.MinInt64} {
		l = append(l, thing{kind: 'i', n: n})
	}
	for _, n := range []int64{0, 1} {
		l = append(l, thing{kind: 'b', n: n})
	}
	for _, n := range []int64{0, 1, 2, 255, 256, 65536, 1 << 31, 1<<32 - 1} {
		l = append(l, thing{kind: 'c', n: n})
	}
	for _, s := range []string{"", "\x00", "\x00\x00", "a", "ab", "b", "\x00\x00\x00\x01a", "\xff\xff\xff\xff"} {
		l = append(l, thing{kind: 't', text: s})
	}
	for _, x := range []float64{0, math.Copysign(0, -1), 1, -1, 0.1, math.Inf(1), math.Inf(-1), math.MaxFloat64, math.SmallestNonzeroFloat64} {
		l = append(l, thing{kind: 'n', bits: math.Float64bits(x)})
	}
	return append(l, thing{kind: 'n', bits: 0x7ff8000000000001})
}

// TestPutIsRead is of promise 1.3: what was put is read, of one thing and of rows of three, and nothing is left.
func TestPutIsRead(t *testing.T) {
	l := things()
	for _, x := range l {
		for _, y := range l {
			for _, z := range []thing{x, y} {
				r := wire.New(z.put(y.put(x.put(nil))))
				if x1, y1, z1 := x.read(r), y.read(r), z.read(r); x1 != x || y1 != y || z1 != z {
					t.Fatalf("%v, %v, %v were put; %v, %v, %v are read", x, y, z, x1, y1, z1)
				}
				r.End()
				if r.Err() != api.OK || r.Left() != 0 {
					t.Fatalf("%v, %v, %v: error %d, left %d", x, y, z, r.Err(), r.Left())
				}
			}
		}
	}
}

// TestEveryNaNIsRead is of promise 1.3: whichever NaN was put, the NaN is read.
func TestEveryNaNIsRead(t *testing.T) {
	for _, bits := range []uint64{0x7ff8000000000001, 0x7ff8000000000000, 0xfff8000000000000, 0x7ff0000000000001, 0xfff0000000000001, math.MaxUint64} {
		r := wire.New(wire.PutNum(nil, math.Float64frombits(bits)))
		if got := math.Float64bits(r.Num()); got != 0x7ff8000000000001 || r.Err() != api.OK || r.Left() != 0 {
			t.Errorf("%x: %x (error %d, left %d)", bits, got, r.Err(), r.Left())
		}
	}
}

// TestSameBytesOnlyIfSame is of promise 1.3: of one thing, and of rows of two, of the same kinds.
func TestSameBytesOnlyIfSame(t *testing.T) {
	l := things()
	for _, a := range l {
		for _, b := range l {
			if a.kind == b.kind && bytes.Equal(a.put(nil), b.put(nil)) != (a == b) {
				t.Errorf("%v and %v: %x and %x", a, b, a.put(nil), b.put(nil))
			}
		}
	}
	rows := map[[2]byte]map[string][2]thing{}
	for _, a := range l {
		for _, b := range l {
			kinds, row := [2]byte{a.kind, b.kind}, [2]thing{a, b}
			if rows[kinds] == nil {
				rows[kinds] = map[string][2]thing{}
			}
			k := string(b.put(a.put(nil)))
			if was, ok := rows[kinds][k]; ok {
				t.Errorf("%v and %v have the same bytes", was, row)
			}
			rows[kinds][k] = row
		}
	}
}

// TestBytesThatEndWithin is of promise 1.3: whichever thing is cut anywhere, as the first one or behind others, is ErrShort.
func TestBytesThatEndWithin(t *testing.T) {
	for _, front := range [][]thing{nil, {{kind: 'i', n: 5}}, {{kind: 't', text: "abc"}, {kind: 'b', n: 1}}} {
		var head []byte
		for _, x := range front {
			head = x.put(head)
		}
		for _, x := range things() {
			whole := x.put(head)
			for cut := len(head); cut < len(whole); cut++ {
				r := wire.New(whole[:cut])
				for _, y := range front {
					y.read(r)
				}
				if got := x.read(r); r.Err() != api.ErrShort || r.Left() != cut-len(head) || got != (thing{kind: x.kind}) {
					t.Errorf("%v cut at %d: %v (error %d, left %d)", x, cut-len(head), got, r.Err(), r.Left())
				}
			}
		}
	}
}

// FuzzRead is of promises 1.2 and 1.3: whatever the bytes are, a thing that is read from them has, when it is put, the bytes that the reader went over; with an error it went over none.
func FuzzRead(f *testing.F) {
	for _, x := range things() {
		f.Add([]byte{x.kind}, x.put(nil))
	}
	for _, x := range faults() {
		f.Add([]byte("tbcin"), unhex(f, x.bytes))
	}
	f.Fuzz(func(t *testing.T, kinds, b []byte) {
		r := wire.New(b)
		for _, k := range kinds {
			left := r.Left()
			x := thing{kind: k}.read(r)
			at := len(b) - left
			if r.Err() != api.OK {
				if r.Left() != left || x != (thing{kind: k}) {
					t.Fatalf("%c at %d of %x: %v (error %d, left %d)", k, at, b, x, r.Err(), r.Left())
				}
				continue
			}
			if went := b[at : len(b)-r.Left()]; !bytes.Equal(x.put(nil), went) {
				t.Fatalf("%c at %d of %x: %v, over %x", k, at, b, x, went)
			}
		}
	})
}
