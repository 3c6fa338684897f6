package block_test

import (
	"slices"
	"testing"

	"quaestor/api"
	"quaestor/block"
	"quaestor/term"
)

// TestHeader is of promise 10.1: height, what is ahead, how many, and the root of the leaves.
func TestHeader(t *testing.T) {
	a := unhex(t, i1000+"00000002 6162"+i3+i2)
	c := unhex(t, minusOne+"00000000"+i0+minusOne)
	one, two := []api.Envelope{signed(1000, "ab")}, []api.Envelope{signed(1000, "ab"), signed(-1, "")}
	for _, x := range []struct {
		b    api.Block
		want api.Header
	}{
		{api.Block{}, api.Header{Root: term.Of(4)}},
		{api.Block{Height: 9, Prev: "p", Requests: []api.Envelope{}}, api.Header{Height: 9, Prev: "p", Root: term.Of(4)}},
		{api.Block{Height: 1, Prev: term.Of(6), Requests: one, Results: []api.Result{came(3, 2)}}, api.Header{Height: 1, Prev: term.Of(6), Count: 1, Root: term.Leaf(2, a)}},
		{api.Block{Height: 3, Requests: two, Results: []api.Result{came(3, 2), came(0, -1)}}, api.Header{Height: 3, Count: 2, Root: term.Pair(3, term.Leaf(2, a), term.Leaf(2, c))}},
	} {
		if got := block.Header(x.b); got != x.want {
			t.Errorf("%#v: %#v, want %#v", x.b, got, x.want)
		}
	}
}

// TestHeaderOfAny is of promise 10.1: a header may be asked of blocks that may not be, too; requests and results go as far as both go.
func TestHeaderOfAny(t *testing.T) {
	for _, h := range ints() {
		for requests := range 6 {
			for results := range 6 {
				b := uneven(requests, results)
				b.Height = h
				n := min(requests, results)
				var leaves [][]byte
				for i := range n {
					leaves = append(leaves, leafBytes(b.Requests[i], b.Results[i]))
				}
				want := api.Header{Height: h, Prev: term.Of(6), Count: n, Root: root(leaves...)}
				if got := block.Header(b); got != want {
					t.Errorf("height %d, %d requests, %d results: %#v, want %#v", h, requests, results, got, want)
				}
			}
		}
	}
	if got := block.Header(numbered(1000)); got.Count != 1000 {
		t.Errorf("1000 requests: %d", got.Count)
	}
}

// TestDigest is of promise 10.1, to the byte.
func TestDigest(t *testing.T) {
	for _, x := range []struct {
		h     api.Header
		bytes string
	}{
		{api.Header{}, "05 00000004 00000008" + i0 + "00000000 00000008" + i0 + "00000000"},
		{api.Header{Height: 1, Prev: "p", Count: 2, Root: "ro"}, "05 00000004 00000008" + i1 + "00000001 70 00000008" + i2 + "00000002 726f"},
		{api.Header{Height: -1, Prev: "\x00", Count: -1, Root: "\xff"}, "05 00000004 00000008" + minusOne + "00000001 00 00000008" + minusOne + "00000001 ff"},
		{block.Header(api.Block{Height: 1, Prev: term.Of(6)}), "05 00000004 00000008" + i1 + "00000005 0600000000 00000008" + i0 + "00000005 0400000000"},
	} {
		if got, want := block.Digest(x.h), api.Digest(unhex(t, x.bytes)); got != want {
			t.Errorf("%#v: %x, want %x", x.h, got, want)
		}
	}
	for _, n := range ints() {
		h := api.Header{Height: n, Prev: "p", Count: -n, Root: "r"}
		if got, want := block.Digest(h), term.Of(5, word(n), []byte("p"), word(-n), []byte("r")); got != want {
			t.Errorf("%d: %x, want %x", n, got, want)
		}
	}
}

// TestHeaderLeavesBlock is of promise 10.1 (R4, R5): a block stays as it is, and what stands behind its lists counts for nothing; the answer is the same again, and stays.
func TestHeaderLeavesBlock(t *testing.T) {
	for _, b := range slices.Concat(blocks(), wrong()[api.ErrBlock]) {
		l := loose(b)
		was := whole(l)
		h := block.Header(l)
		if want := block.Header(b); h != want || block.Header(l) != h || block.Check(l) != block.Check(b) {
			t.Errorf("%d requests: %#v, want %#v", len(b.Requests), h, want)
		}
		if whole(l) != was {
			t.Errorf("%d requests: %s, and then %s", len(b.Requests), was, whole(l))
		}
		spoil(l)
		if h != block.Header(b) || block.Digest(h) != block.Digest(block.Header(b)) {
			t.Errorf("%d requests: the header goes with them", len(b.Requests))
		}
	}
}
