package merkle_test

import (
	"strings"
	"testing"

	"quaestor/api"
	"quaestor/merkle"
	"quaestor/term"
)

// TestRootBytes is of promise 9.1, to the byte: no leaf, one leaf, two.
func TestRootBytes(t *testing.T) {
	for _, x := range []struct {
		leaves [][]byte
		bytes  string
	}{
		{nil, "04 00000000"},
		{[][]byte{}, "04 00000000"},
		{rows("a"), "02 00000001 00000001 61"},
		{rows(""), "02 00000001 00000000"},
		{[][]byte{nil}, "02 00000001 00000000"},
		{rows(strings.Repeat("x", 300)), "02 00000001 0000012c" + strings.Repeat("78", 300)},
		{rows("a", "bc"), "03 00000002 0000000a 02000000010000000161 0000000b 0200000001000000026263"},
		{[][]byte{nil, {}}, "03 00000002 00000009 020000000100000000 00000009 020000000100000000"},
	} {
		if got, want := merkle.Root(x.leaves), unhex(t, x.bytes); got != want {
			t.Errorf("%q: %x, want %x", x.leaves, got, want)
		}
	}
}

// TestRootOfFew is of promise 9.1: as many as the greatest power of two below n stand on the left.
func TestRootOfFew(t *testing.T) {
	a, b, c, d, e, f, g, h, i := leaf("a"), leaf("b"), leaf("c"), leaf("d"), leaf("e"), leaf("f"), leaf("g"), leaf("h"), leaf("i")
	ab, abcd := pair(a, b), pair(pair(a, b), pair(c, d))
	leaves := rows("a", "b", "c", "d", "e", "f", "g", "h", "i")
	for n, want := range []api.Digest{
		term.Of(4),
		a,
		ab,
		pair(ab, c),
		abcd,
		pair(abcd, e),
		pair(abcd, pair(e, f)),
		pair(abcd, pair(pair(e, f), g)),
		pair(abcd, pair(pair(e, f), pair(g, h))),
		pair(pair(abcd, pair(pair(e, f), pair(g, h))), i),
	} {
		if got := merkle.Root(leaves[:n]); got != want {
			t.Errorf("of %d: %x, want %x", n, got, want)
		}
	}
}

// TestRootOfMany is of promise 9.1: trees are as those that are put together from below.
func TestRootOfMany(t *testing.T) {
	for _, n := range append(counts(), 1000, 1023, 1024, 1025, 4097) {
		for _, leaves := range [][][]byte{numbered(n), same(n)} {
			want, _ := grow(leaves)
			if got := merkle.Root(leaves); got != want {
				t.Errorf("%d leaves: another root", n)
			}
		}
	}
}

// TestRootOfParts is of promise 9.1: what is like a leaf's digest, or a pair's, is a leaf as any other one.
func TestRootOfParts(t *testing.T) {
	for _, s := range []api.Digest{leaf("a"), pair(leaf("a"), leaf("b")), term.Of(4)} {
		if got, want := merkle.Root(rows(string(s))), term.Leaf(2, []byte(s)); got != want {
			t.Errorf("%x: %x, want %x", s, got, want)
		}
	}
}

// TestRootLeavesLeaves is of promise 9.1 (R4, R5): leaves stay as they are, and what stands behind them counts for nothing; the answer is the same again, and stays.
func TestRootLeavesLeaves(t *testing.T) {
	for n := range 20 {
		leaves := loose(numbered(n))
		was := whole(leaves)
		root := merkle.Root(leaves)
		if want := merkle.Root(numbered(n)); root != want || merkle.Root(leaves) != root {
			t.Errorf("%d leaves: %x, want %x", n, root, want)
		}
		if whole(leaves) != was {
			t.Errorf("%d leaves: %s, and then %s", n, was, whole(leaves))
		}
		for _, b := range leaves {
			b[0] = 'x'
		}
		if root != merkle.Root(numbered(n)) {
			t.Errorf("%d leaves: the root goes with them", n)
		}
	}
}
