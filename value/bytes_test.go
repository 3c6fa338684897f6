package value_test

import (
	"bytes"
	"encoding/hex"
	"math"
	"strings"
	"testing"

	"quaestor/api"
	"quaestor/value"
	"quaestor/wire"
)

// unhex makes bytes of hexadecimal digits; blanks may stand between them.
func unhex(t testing.TB, s string) []byte {
	t.Helper()
	b, err := hex.DecodeString(strings.ReplaceAll(s, " ", ""))
	if err != nil {
		t.Fatalf("%q: %v", s, err)
	}
	return b
}

// form is a value and the bytes that it ought to have.
type form struct {
	v     api.Value
	bytes string
}

func forms() []form {
	return []form{
		{integer(-2), "00 00 00 00 00 00 00 01 ff ff ff ff ff ff ff fe"},
		{integer(math.MinInt64), "00 00 00 00 00 00 00 01 80 00 00 00 00 00 00 00"},
		{truth(false), "00 00 00 00 00 00 00 02 00"},
		{truth(true), "00 00 00 00 00 00 00 02 01"},
		{text(""), "00 00 00 00 00 00 00 03 00 00 00 00"},
		{text("ab"), "00 00 00 00 00 00 00 03 00 00 00 02 61 62"},
		{text("\xff\x00"), "00 00 00 00 00 00 00 03 00 00 00 02 ff 00"},
		{num(1.5), "00 00 00 00 00 00 00 04 3f f8 00 00 00 00 00 00"},
		{num(minusNought()), "00 00 00 00 00 00 00 04 80 00 00 00 00 00 00 00"},
		{num(math.Inf(-1)), "00 00 00 00 00 00 00 04 ff f0 00 00 00 00 00 00"},
		{ofBits(theNaN), "00 00 00 00 00 00 00 04 7f f8 00 00 00 00 00 01"},
	}
}

// badForms are of values that are not good: what is not of their kind has no bytes, a text has all of its own.
func badForms() []form {
	return []form{
		{api.Value{Kind: api.KindInt, Int: 1, Bool: true, Text: "x", Num: 2}, "00 00 00 00 00 00 00 01 00 00 00 00 00 00 00 01"},
		{api.Value{Kind: api.KindBool, Int: 1, Text: "x", Num: 2}, "00 00 00 00 00 00 00 02 00"},
		{api.Value{Kind: api.KindText, Int: 1, Bool: true, Text: "x", Num: 2}, "00 00 00 00 00 00 00 03 00 00 00 01 78"},
		{api.Value{Kind: api.KindNum, Int: 1, Bool: true, Text: "x", Num: 2}, "00 00 00 00 00 00 00 04 40 00 00 00 00 00 00 00"},
		{ofBits(math.MaxUint64), "00 00 00 00 00 00 00 04 7f f8 00 00 00 00 00 01"},
		{text(strings.Repeat("m", 300)), "00 00 00 00 00 00 00 03 00 00 01 2c" + strings.Repeat("6d", 300)},
		{api.Value{}, "00 00 00 00 00 00 00 00"},
		{api.Value{Int: 1, Bool: true, Text: "x", Num: 2}, "00 00 00 00 00 00 00 00"},
		{api.Value{Kind: 5, Int: 1, Bool: true, Text: "x", Num: 2}, "00 00 00 00 00 00 00 05"},
		{api.Value{Kind: -1}, "ff ff ff ff ff ff ff ff"},
		{api.Value{Kind: math.MaxInt}, "7f ff ff ff ff ff ff ff"},
	}
}

// TestPut is of promise 4.5: of each value its form, behind whatever bytes stand ahead.
func TestPut(t *testing.T) {
	for _, x := range append(forms(), badForms()...) {
		for _, front := range []string{"", "x", "\x00\x00", "a longer row of bytes, all of which must stay"} {
			want := append([]byte(front), unhex(t, x.bytes)...)
			if got := value.Put([]byte(front), x.v); !bytes.Equal(got, want) {
				t.Errorf("%#v behind %q: %x, want %x", x.v, front, got, want)
			}
		}
		if got := value.Put(nil, x.v); !bytes.Equal(got, unhex(t, x.bytes)) {
			t.Errorf("%#v behind none: %x", x.v, got)
		}
	}
}

// TestPutSharesNothing is of promise 4.5 by rule R4: what is handed in stays, behind its end, too, and an answer is new memory.
func TestPutSharesNothing(t *testing.T) {
	for _, x := range append(forms(), badForms()...) {
		back := bytes.Repeat([]byte{0xaa}, 400)
		one := value.Put(back[:3], x.v)
		two := value.Put(back[:3], x.v)
		want := bytes.Clone(two)
		for i := range one {
			one[i] ^= 0xff
		}
		if !bytes.Equal(back, bytes.Repeat([]byte{0xaa}, 400)) {
			t.Errorf("%#v: what was handed in is changed", x.v)
		}
		if !bytes.Equal(two, want) {
			t.Errorf("%#v: two answers share memory", x.v)
		}
	}
}

// TestGet is of promise 4.5: the value that stands at the front; the reader is behind it then.
func TestGet(t *testing.T) {
	for _, x := range forms() {
		for _, behind := range []string{"", "\x00", "more of them"} {
			r := wire.New(append(unhex(t, x.bytes), behind...))
			got, err := value.Get(r)
			if !identical(got, x.v) || err != api.OK || r.Err() != api.OK || r.Left() != len(behind) {
				t.Errorf("%s: %#v, error %d (the reader's %d, left %d), want %#v", x.bytes, got, err, r.Err(), r.Left(), x.v)
			}
		}
	}
	long := strings.Repeat("\xff", api.MaxText)
	if got, err := value.Get(wire.New(value.Put(nil, text(long)))); got != text(long) || err != api.OK {
		t.Errorf("a text of MaxText bytes: %#v, error %d", got, err)
	}
}

// TestGetErrors is of promise 4.5: which error there is, beside the zero value.
func TestGetErrors(t *testing.T) {
	for _, x := range []struct {
		bytes string
		want  api.Errno
	}{
		{"", api.ErrShort},
		{"00 00 00 00 00 00 00", api.ErrShort},
		{"00 00 00 00 00 00 00 01", api.ErrShort},
		{"00 00 00 00 00 00 00 01 00 00 00 00 00 00 00", api.ErrShort},
		{"00 00 00 00 00 00 00 02", api.ErrShort},
		{"00 00 00 00 00 00 00 03 00 00 00", api.ErrShort},
		{"00 00 00 00 00 00 00 03 00 00 00 02 61", api.ErrShort},
		{"00 00 00 00 00 00 00 03 00 00 00 20 61", api.ErrShort},
		{"00 00 00 00 00 00 00 04 3f f8 00 00 00 00 00", api.ErrShort},

		{"00 00 00 00 00 00 00 02 02", api.ErrForm},
		{"00 00 00 00 00 00 00 02 ff 00", api.ErrForm},
		{"00 00 00 00 00 00 00 04 7f f8 00 00 00 00 00 00", api.ErrForm},
		{"00 00 00 00 00 00 00 04 ff f8 00 00 00 00 00 01", api.ErrForm},

		{"00 00 00 00 00 00 00 00", api.ErrForm},
		{"00 00 00 00 00 00 00 05", api.ErrForm},
		{"00 00 00 00 00 00 00 05 00 00 00 00 00 00 00 01", api.ErrForm},
		{"ff ff ff ff ff ff ff ff 00 00 00 00 00 00 00 01", api.ErrForm},
		{"00 00 00 01 00 00 00 01 00 00 00 00 00 00 00 01", api.ErrForm},
		{"01 00 00 00 00 00 00 01 00 00 00 00 00 00 00 01", api.ErrForm},
		{"80 00 00 00 00 00 00 03 00 00 00 00", api.ErrForm},

		{"00 00 00 00 00 00 00 03 00 00 00 21" + strings.Repeat("61", 33), api.ErrLong},
		{"00 00 00 00 00 00 00 03 00 00 00 21 61", api.ErrLong},
		{"00 00 00 00 00 00 00 03 ff ff ff ff", api.ErrLong},
	} {
		if got, err := value.Get(wire.New(unhex(t, x.bytes))); got != (api.Value{}) || err != x.want {
			t.Errorf("%s: %#v, error %d, want %d", x.bytes, got, err, x.want)
		}
	}
}

// TestGetOfFailedReader is of promise 4.5: the error that a reader has already is told, whatever stands there.
func TestGetOfFailedReader(t *testing.T) {
	for _, x := range append(forms(), badForms()...) {
		b := unhex(t, x.bytes)
		for want, fail := range map[api.Errno]func(r *wire.Reader){
			api.ErrMore:  func(r *wire.Reader) { r.End() },
			api.ErrShort: func(r *wire.Reader) { r.Bytes(math.MaxInt) },
			api.ErrForm:  func(r *wire.Reader) { r.Bool() },
			api.ErrLong:  func(r *wire.Reader) { r.Count(0) },
		} {
			front := []byte{0x7f, 0xff, 0xff, 0xff}
			r := wire.New(append(front, b...))
			fail(r)
			if got, err := value.Get(r); got != (api.Value{}) || err != want || r.Err() != want || r.Left() != len(front)+len(b) {
				t.Errorf("%s: %#v, error %d, want %d", x.bytes, got, err, want)
			}
		}
	}
}

// TestGetOfNoReader is of promise 4.5 and rule R1: a reader without bytes tells no value, and nothing panics.
func TestGetOfNoReader(t *testing.T) {
	for _, r := range []*wire.Reader{nil, {}, wire.New(nil)} {
		if got, err := value.Get(r); got != (api.Value{}) || err == api.OK {
			t.Errorf("%#v, error %d", got, err)
		}
	}
}

// FuzzGet is of promises 4.5 and 4.6: whatever the bytes are, what is got from them is good, and has, when it is put, the bytes that the reader went over.
func FuzzGet(f *testing.F) {
	for _, x := range append(forms(), badForms()...) {
		f.Add(unhex(f, x.bytes))
	}
	f.Fuzz(func(t *testing.T, b []byte) {
		r := wire.New(b)
		v, err := value.Get(r)
		if err != api.OK {
			if v != (api.Value{}) {
				t.Fatalf("%x: %#v beside error %d", b, v, err)
			}
			return
		}
		if went := b[:len(b)-r.Left()]; !value.Good(v) || !bytes.Equal(value.Put(nil, v), went) {
			t.Fatalf("%x: %#v", b, v)
		}
	})
}
