package block_test

import (
	"bytes"
	"math"
	"testing"

	"quaestor/api"
	"quaestor/block"
)

// smallBytes are what small has.
const smallBytes = i2 + "00000001 70 00000001" + i1000 + "00000002 6162 0000000000000046" + minusOne

// TestPut is of promise 10.3, to the byte.
func TestPut(t *testing.T) {
	two := api.Block{
		Height:   lastHeight,
		Requests: []api.Envelope{signed(math.MinInt, ""), signed(1000, "a")},
		Results:  []api.Result{came(1, math.MaxInt), came(0, 3)},
	}
	for _, x := range []struct {
		b     api.Block
		bytes string
	}{
		{api.Block{Height: 1}, i1 + "00000000 00000000"},
		{api.Block{Height: 1, Prev: "\x06", Requests: []api.Envelope{}, Results: []api.Result{}}, i1 + "00000001 06 00000000"},
		{small(), smallBytes},
		{two, "0000010000000000 00000000 00000002" + least + "00000000" + i1 + greatest + i1000 + "00000001 61" + i0 + i3},
	} {
		if got, want := block.Put(x.b), unhex(t, x.bytes); !bytes.Equal(got, want) {
			t.Errorf("%#v: %x, want %x", x.b, got, want)
		}
	}
	for _, b := range blocks() {
		if !bytes.Equal(block.Put(b), blockBytes(b)) {
			t.Errorf("height %d, %d requests: other bytes", b.Height, len(b.Requests))
		}
	}
}

// TestPutOfWrong is of promise 10.3: nothing, of what may not be.
func TestPutOfWrong(t *testing.T) {
	for _, all := range wrong() {
		for _, b := range all {
			if got := block.Put(b); len(got) > 0 {
				t.Errorf("height %d, %d requests, %d results: %x", b.Height, len(b.Requests), len(b.Results), got)
			}
		}
	}
}

// TestPutIsNew is of promise 10.3 (R4, R5): a block stays as it is, and what stands behind its lists counts for nothing; each row of bytes is another one's memory, and the same.
func TestPutIsNew(t *testing.T) {
	for _, b := range blocks() {
		l := loose(b)
		was := whole(l)
		first, second := block.Put(l), block.Put(l)
		if !bytes.Equal(first, blockBytes(b)) || whole(l) != was {
			t.Errorf("height %d, %d requests: %x; %s, and then %s", b.Height, len(b.Requests), first, was, whole(l))
		}
		for i := range first {
			first[i] = '!'
		}
		spoil(l)
		if !bytes.Equal(second, blockBytes(b)) {
			t.Errorf("height %d, %d requests: the bytes go with them", b.Height, len(b.Requests))
		}
	}
}

// TestGet is of promise 10.3: what Put puts is read, and is new memory.
func TestGet(t *testing.T) {
	for _, b := range blocks() {
		x := append(blockBytes(b), "behind"...)
		was := bytes.Clone(x)
		first, err := block.Get(x[:len(x)-6])
		second, _ := block.Get(x[:len(x)-6])
		if err != api.OK || !same(first, b) || !same(second, b) || !bytes.Equal(x, was) {
			t.Errorf("height %d, %d requests: %d, %#v", b.Height, len(b.Requests), err, first)
		}
		for i := range x {
			x[i] = '!'
		}
		spoil(first)
		if !same(second, b) {
			t.Errorf("height %d, %d requests: %#v goes with it", b.Height, len(b.Requests), second)
		}
	}
}

// TestGetSharesNone is of promise 10.3 (R4): what is put behind one body of a block stands in no other one, nor in the bytes.
func TestGetSharesNone(t *testing.T) {
	b := numbered(4)
	x := blockBytes(b)
	got, _ := block.Get(x)
	for _, e := range got.Requests {
		_ = append(e.Body, "behind, and more behind"...)
	}
	if !bytes.Equal(x, blockBytes(b)) {
		t.Errorf("%x, and then %x", blockBytes(b), x)
	}
	if !same(got, b) {
		t.Errorf("%#v, want %#v", got, b)
	}
}

// refused holds that bytes are no block, and that nothing is told of them.
func refused(t *testing.T, x []byte) {
	t.Helper()
	if b, err := block.Get(x); err != api.ErrForm || !same(b, api.Block{}) {
		t.Errorf("%x: %#v, %d", x, b, err)
	}
}

// TestGetOfParts is of promise 10.3: bytes that end too early, and bytes behind the end.
func TestGetOfParts(t *testing.T) {
	for _, b := range []api.Block{{Height: 1}, small(), numbered(2), numbered(4)} {
		x := blockBytes(b)
		for n := range x {
			refused(t, x[:n])
		}
		refused(t, append(bytes.Clone(x), 0))
		refused(t, append(bytes.Clone(x), x...))
	}
	refused(t, nil)
	refused(t, []byte{})
}

// TestGetOfWrong is of promise 10.3: the bytes of blocks that Check does not take.
func TestGetOfWrong(t *testing.T) {
	for _, all := range wrong() {
		for _, b := range all {
			if len(b.Requests) == len(b.Results) {
				refused(t, blockBytes(b))
			}
		}
	}
	for _, h := range []string{i0, minusOne, least, greatest, "0000010000000001"} {
		refused(t, unhex(t, h+"00000000 00000000"))
	}
}

// TestGetOfWrongCounts is of promise 10.3: counts that say more, or less, than stands there.
func TestGetOfWrongCounts(t *testing.T) {
	one := i1000 + "00000001 61" + i0 + i0
	for _, s := range []string{
		i1 + "00000000 00000001",
		i1 + "00000000 00000004",
		i1 + "00000000 00000005",
		i1 + "00000000 ffffffff",
		i1 + "00000000 80000000",
		i1 + "00000001 00000000",
		i1 + "00000005 00000000",
		i1 + "ffffffff 00000000",
		i1 + "00000000 00000000" + one,
		i1 + "00000000 00000002" + one,
		i1 + "00000000 00000001" + one + one,
		i1 + "00000000 00000005" + one + one + one + one + one,
		i1 + "00000000 00000001" + i1000 + "00000002 61" + i0 + i0,
		i1 + "00000000 00000001" + i1000 + "00000000 61" + i0 + i0,
		i1 + "00000000 00000001" + i1000 + "ffffffff 61" + i0 + i0,
		i1 + "00000000 00000001" + i1000 + "00000011 61" + i0 + i0,
		i1 + "00000000 00000001" + i1000 + "00000012 61" + i0 + i0,
	} {
		refused(t, unhex(t, s))
	}
	b, err := block.Get(unhex(t, i1+"00000000 00000004"+one+one+one+one))
	if err != api.OK || len(b.Requests) != 4 || len(b.Results) != 4 {
		t.Errorf("four requests: %#v, %d", b, err)
	}
}
