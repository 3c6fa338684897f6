package merkle_test

import (
	"bytes"
	"encoding/hex"
	"fmt"
	"math"
	"slices"
	"strings"
	"testing"

	"quaestor/api"
	"quaestor/term"
)

// unhex makes a digest of hexadecimal digits; blanks may stand between them.
func unhex(t testing.TB, s string) api.Digest {
	t.Helper()
	b, err := hex.DecodeString(strings.ReplaceAll(s, " ", ""))
	if err != nil {
		t.Fatalf("%q: %v", s, err)
	}
	return api.Digest(b)
}

// rows makes leaves of texts.
func rows(texts ...string) [][]byte {
	var leaves [][]byte
	for _, s := range texts {
		leaves = append(leaves, []byte(s))
	}
	return leaves
}

// numbered makes n leaves, each another one; their lengths are not the same.
func numbered(n int) [][]byte {
	var leaves [][]byte
	for i := range n {
		leaves = append(leaves, fmt.Append(nil, i))
	}
	return leaves
}

// same makes n leaves that are one like the other.
func same(n int) [][]byte {
	leaves := make([][]byte, n)
	for i := range leaves {
		leaves[i] = []byte("a")
	}
	return leaves
}

// leaf and pair make digests as the chapter tells their tags.
func leaf(s string) api.Digest { return term.Leaf(2, []byte(s)) }

func pair(a, b api.Digest) api.Digest { return term.Pair(3, a, b) }

// right and left are steps of a path: what stands beside, and on which side.
func right(d api.Digest) api.Step { return api.Step{Left: false, Digest: d} }

func left(d api.Digest) api.Step { return api.Step{Left: true, Digest: d} }

// grow is a tree that is put together from below, two by two, where the last one stays alone if there is no other: its root, and the path of each leaf. It has none of the ways that the package goes.
func grow(leaves [][]byte) (api.Digest, [][]api.Step) {
	type part struct {
		digest api.Digest
		places []int
	}
	var row []part
	paths := make([][]api.Step, len(leaves))
	for i, b := range leaves {
		row = append(row, part{term.Leaf(2, b), []int{i}})
	}
	for len(row) > 1 {
		var above []part
		for two := range slices.Chunk(row, 2) {
			if len(two) == 1 {
				above = append(above, two[0])
				continue
			}
			for _, i := range two[0].places {
				paths[i] = append(paths[i], right(two[1].digest))
			}
			for _, i := range two[1].places {
				paths[i] = append(paths[i], left(two[0].digest))
			}
			above = append(above, part{pair(two[0].digest, two[1].digest), slices.Concat(two[0].places, two[1].places)})
		}
		row = above
	}
	if len(row) == 0 {
		return term.Of(4), nil
	}
	return row[0].digest, paths
}

// counts are how many leaves trees have here: all small ones, and those around powers of two.
func counts() []int {
	var l []int
	for n := range 41 {
		l = append(l, n)
	}
	return append(l, 63, 64, 65, 100, 127, 128, 129, 255, 256, 257)
}

// ints are places and counts that are none, or hardly one.
func ints() []int {
	return []int{math.MinInt, math.MinInt + 1, -1 << 32, -2, -1, 0, 1, 2, 3, 4, 5, 1 << 32, 1 << 62, math.MaxInt - 1, math.MaxInt}
}

// loose makes lists of bytes behind whose ends other bytes, and other lists, stand.
func loose(leaves [][]byte) [][]byte {
	l := make([][]byte, 0, len(leaves)+2)
	for _, b := range leaves {
		l = append(l, append(bytes.Clone(b), "behind"...)[:len(b)])
	}
	l = append(l, []byte("behind"), []byte("behind"))
	return l[:len(leaves)]
}

// whole tells all that stands in leaves, behind their ends too.
func whole(leaves [][]byte) string {
	var b strings.Builder
	for _, x := range leaves[:cap(leaves)] {
		fmt.Fprintf(&b, "%q ", x[:cap(x)])
	}
	return b.String()
}

// isPath holds two paths against each other.
func isPath(a, b []api.Step) bool { return slices.Equal(a, b) }
