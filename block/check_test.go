package block_test

import (
	"bytes"
	"math"
	"testing"

	"quaestor/api"
	"quaestor/block"
)

// TestCheck is of promise 10.1: what may be, to the ends of heights and counts.
func TestCheck(t *testing.T) {
	for _, b := range blocks() {
		if got := block.Check(b); got != api.OK {
			t.Errorf("height %d, %d requests: %d", b.Height, len(b.Requests), got)
		}
	}
	for want, all := range wrong() {
		for _, b := range all {
			if got := block.Check(b); got != want {
				t.Errorf("height %d, %d requests, %d results: %d, want %d", b.Height, len(b.Requests), len(b.Results), got, want)
			}
		}
	}
	if got := block.Check(api.Block{}); got != api.ErrHeight {
		t.Errorf("no block: %d", got)
	}
	if got := block.Check(api.Block{Height: 1, Requests: []api.Envelope{}, Results: nil}); got != api.OK {
		t.Errorf("lists of nothing: %d", got)
	}
}

// TestCheckOfHeights is of promise 10.1: a height alone decides, of blocks that are right else.
func TestCheckOfHeights(t *testing.T) {
	for _, h := range ints() {
		want := api.OK
		if h < 1 || h > lastHeight {
			want = api.ErrHeight
		}
		b := small()
		b.Height = h
		if got := block.Check(b); got != want {
			t.Errorf("height %d: %d, want %d", h, got, want)
		}
	}
}

// TestCheckOfCounts is of promise 10.1: of all counts near those that may be.
func TestCheckOfCounts(t *testing.T) {
	for requests := range 8 {
		for results := range 8 {
			want := api.ErrBlock
			if requests == results && requests <= api.MaxBatch {
				want = api.OK
			}
			if got := block.Check(uneven(requests, results)); got != want {
				t.Errorf("%d requests, %d results: %d, want %d", requests, results, got, want)
			}
		}
	}
}

// TestCheckKnowsNobody is of promise 10.1: what stands ahead, who signed what, and what it came to, may be anything.
func TestCheckKnowsNobody(t *testing.T) {
	for _, n := range ints() {
		b := small()
		b.Prev, b.Requests[0], b.Results[0] = "", signed(n, ""), came(api.Errno(n), n)
		if got := block.Check(b); got != api.OK {
			t.Errorf("%d: %d", n, got)
		}
	}
}

// TestLeaf is of promise 10.1, to the byte.
func TestLeaf(t *testing.T) {
	for _, x := range []struct {
		e     api.Envelope
		r     api.Result
		bytes string
	}{
		{api.Envelope{}, api.Result{}, i0 + "00000000" + i0 + i0},
		{api.Envelope{Body: []byte{}}, api.Result{}, i0 + "00000000" + i0 + i0},
		{signed(1000, "ab"), came(3, 2), i1000 + "00000002 6162" + i3 + i2},
		{signed(-1, "a"), came(api.OK, -1), minusOne + "00000001 61" + i0 + minusOne},
		{signed(1, "\x00\xff"), came(1, 0), i1 + "00000002 00ff" + i1 + i0},
		{signed(math.MaxInt, ""), came(math.MinInt, math.MaxInt), greatest + "00000000" + least + greatest},
		{signed(math.MinInt, ""), came(math.MaxInt, math.MinInt), least + "00000000" + greatest + least},
	} {
		if got, want := block.Leaf(x.e, x.r), unhex(t, x.bytes); !bytes.Equal(got, want) {
			t.Errorf("%#v %#v: %x, want %x", x.e, x.r, got, want)
		}
	}
	e, r := signed(1000, string(bytes.Repeat([]byte("x"), 100000))), came(5, 6)
	if !bytes.Equal(block.Leaf(e, r), leafBytes(e, r)) {
		t.Error("a long body: other bytes")
	}
}

// TestLeafIsNew is of promise 10.1 (R4, R5): a body stays as it is, behind its end too; each leaf is another one's memory, and the same.
func TestLeafIsNew(t *testing.T) {
	body := []byte("abbehind")
	e, r := api.Envelope{Signer: 1000, Body: body[:2]}, came(3, 2)
	first, second := block.Leaf(e, r), block.Leaf(e, r)
	if string(body) != "abbehind" {
		t.Errorf("the body is %q", body)
	}
	body[0] = 'x'
	for i := range first {
		first[i] = '!'
	}
	if want := leafBytes(signed(1000, "ab"), r); !bytes.Equal(second, want) {
		t.Errorf("%x, want %x", second, want)
	}
}
