package merkle_test

import (
	"testing"

	"quaestor/api"
	"quaestor/merkle"
)

// TestPathOfFew is of promise 9.2: the other part's root of each pair, from below, and on which side it stands.
func TestPathOfFew(t *testing.T) {
	a, b, c, d, e, f := leaf("a"), leaf("b"), leaf("c"), leaf("d"), leaf("e"), leaf("f")
	ab, cd, ef := pair(a, b), pair(c, d), pair(e, f)
	leaves := rows("a", "b", "c", "d", "e", "f")
	for n, paths := range [][][]api.Step{
		{},
		{{}},
		{{right(b)}, {left(a)}},
		{{right(b), right(c)}, {left(a), right(c)}, {left(ab)}},
		{{right(b), right(cd)}, {left(a), right(cd)}, {right(d), left(ab)}, {left(c), left(ab)}},
		{
			{right(b), right(cd), right(e)}, {left(a), right(cd), right(e)},
			{right(d), left(ab), right(e)}, {left(c), left(ab), right(e)}, {left(pair(ab, cd))},
		},
		{
			{right(b), right(cd), right(ef)}, {left(a), right(cd), right(ef)},
			{right(d), left(ab), right(ef)}, {left(c), left(ab), right(ef)},
			{right(f), left(pair(ab, cd))}, {left(e), left(pair(ab, cd))},
		},
	} {
		for i, want := range paths {
			if got, err := merkle.Path(leaves[:n], i); !isPath(got, want) || err != api.OK {
				t.Errorf("%d of %d: %#v, error %d, want %#v", i, n, got, err, want)
			}
		}
	}
}

// TestPathOfMany is of promise 9.2: paths are as those of trees that are put together from below.
func TestPathOfMany(t *testing.T) {
	for _, n := range counts() {
		for _, leaves := range [][][]byte{numbered(n), same(n)} {
			_, paths := grow(leaves)
			for i, want := range paths {
				if got, err := merkle.Path(leaves, i); !isPath(got, want) || err != api.OK {
					t.Errorf("%d of %d: error %d, or another path", i, n, err)
				}
			}
		}
	}
}

// TestPathOfLongRow is of promise 9.2: at the ends of a long row, and around its greatest powers of two.
func TestPathOfLongRow(t *testing.T) {
	for _, n := range []int{4095, 4096, 4097, 5000} {
		leaves := numbered(n)
		_, paths := grow(leaves)
		for _, i := range []int{0, 1, 2047, 2048, 4094, n - 2, n - 1} {
			if got, err := merkle.Path(leaves, i); !isPath(got, paths[i]) || err != api.OK {
				t.Errorf("%d of %d: error %d, or another path", i, n, err)
			}
		}
	}
}

// TestPathOfNoPlace is of promise 9.2: ErrRange, and no path, where i is not from 0 to n - 1; of no leaf there is none.
func TestPathOfNoPlace(t *testing.T) {
	lists := [][][]byte{nil, {}, {nil}, loose(nil), loose(numbered(1))}
	for n := range 12 {
		lists = append(lists, numbered(n), loose(numbered(n)))
	}
	for _, leaves := range lists {
		n := len(leaves)
		for _, i := range append(ints(), n-1, n, n+1, -n) {
			path, err := merkle.Path(leaves, i)
			if i >= 0 && i < n {
				if err != api.OK {
					t.Errorf("%d of %d: error %d", i, n, err)
				}
			} else if len(path) != 0 || err != api.ErrRange {
				t.Errorf("%d of %d: %#v, error %d", i, n, path, err)
			}
		}
	}
}

// TestPathLeavesLeaves is of promise 9.2 (R4, R5): leaves stay as they are, and what stands behind them counts for nothing; each answer is its own.
func TestPathLeavesLeaves(t *testing.T) {
	for n := range 20 {
		leaves := loose(numbered(n))
		was := whole(leaves)
		for i := range leaves {
			want, _ := merkle.Path(numbered(n), i)
			one, _ := merkle.Path(leaves, i)
			two, _ := merkle.Path(leaves, i)
			for j := range one {
				one[j] = api.Step{Left: !one[j].Left, Digest: "x"}
			}
			if !isPath(two, want) {
				t.Errorf("%d of %d: %#v, want %#v", i, n, two, want)
			}
		}
		if whole(leaves) != was {
			t.Errorf("%d leaves: %s, and then %s", n, was, whole(leaves))
		}
	}
}
