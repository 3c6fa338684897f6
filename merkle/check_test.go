package merkle_test

import (
	"fmt"
	"math"
	"slices"
	"testing"

	"quaestor/api"
	"quaestor/merkle"
	"quaestor/term"
)

// TestCheckOfFew is of promise 9.3: what is put together by hand is taken.
func TestCheckOfFew(t *testing.T) {
	a, b, c := leaf("a"), leaf("b"), leaf("c")
	root := pair(pair(a, b), c)
	for _, x := range []struct {
		root api.Digest
		leaf string
		i, n int
		path []api.Step
		err  api.Errno
	}{
		{a, "a", 0, 1, nil, api.OK},
		{a, "a", 0, 1, []api.Step{}, api.OK},
		{leaf(""), "", 0, 1, nil, api.OK},
		{root, "a", 0, 3, []api.Step{right(b), right(c)}, api.OK},
		{root, "b", 1, 3, []api.Step{left(a), right(c)}, api.OK},
		{root, "c", 2, 3, []api.Step{left(pair(a, b))}, api.OK},

		{root, "b", 0, 3, []api.Step{left(a), right(c)}, api.ErrPath},                      // b stands at place 1
		{root, "b", 0, 3, []api.Step{right(b), right(c)}, api.ErrPath},                     // what stands at place 0 is a
		{root, "a", 1, 3, []api.Step{right(b), right(c)}, api.ErrPath},                     // a stands at place 0
		{root, "c", 2, 3, []api.Step{left(a), left(b)}, api.ErrPath},                       // one by one
		{root, "a", 0, 3, []api.Step{right(c), right(b)}, api.ErrPath},                     // from above
		{root, "a", 0, 3, []api.Step{right(b)}, api.ErrPath},                               // too few
		{pair(a, b), "a", 0, 3, []api.Step{right(b)}, api.ErrPath},                         // too few, though all is there
		{root, "a", 0, 2, []api.Step{right(b), right(c)}, api.ErrPath},                     // too many, though all is there
		{root, "a", 0, 3, []api.Step{right(b), right(c), right("")}, api.ErrPath},          // too many
		{root, "a", 0, 3, nil, api.ErrPath},                                                // none
		{a, "a", 0, 2, nil, api.ErrPath},                                                   // none
		{root, "", 0, 3, []api.Step{right(b), right(c)}, api.ErrPath},                      // another leaf
		{root, string(a), 0, 3, []api.Step{right(b), right(c)}, api.ErrPath},               // a leaf's digest
		{root, string(b), 1, 2, []api.Step{left(a)}, api.ErrPath},                          // a leaf's digest
		{"", "a", 0, 3, []api.Step{right(b), right(c)}, api.ErrPath},                       // no root
		{term.Of(4), "", 0, 1, nil, api.ErrPath},                                           // of no leaf
		{root + "x", "a", 0, 3, []api.Step{right(b), right(c)}, api.ErrPath},               // no digest
		{pair(a, a), "a", 0, 2, []api.Step{left(a)}, api.ErrPath},                          // on the wrong side, where it is the same
		{pair(a, a), "a", 1, 2, []api.Step{right(a)}, api.ErrPath},                         // on the wrong side, where it is the same
		{pair(b, a), "a", 0, 2, []api.Step{left(b)}, api.ErrPath},                          // it stands at place 1
		{term.Pair(2, a, b), "a", 0, 2, []api.Step{right(b)}, api.ErrPath},                 // a pair of another tag
		{term.Leaf(3, []byte("a")), "a", 0, 1, nil, api.ErrPath},                           // a leaf of another tag
		{pair(pair(a, b), c), string(pair(a, b)), 0, 2, []api.Step{right(c)}, api.ErrPath}, // a pair as a leaf

		{pair(a, "x"), "a", 0, 2, []api.Step{right("x")}, api.OK},    // beside the way anything may stand
		{pair("", a), "a", 1, 2, []api.Step{left("")}, api.OK},       // nothing, too
		{pair("", a), "a", 1, 2, []api.Step{left("x")}, api.ErrPath}, // but that alone
	} {
		if got := merkle.Check(x.root, []byte(x.leaf), x.i, x.n, x.path); got != x.err {
			t.Errorf("%q at %d of %d by %#v: %d, want %d", x.leaf, x.i, x.n, x.path, got, x.err)
		}
	}
}

// TestCheckOfNoPlace is of promise 9.3: ErrRange stands ahead of ErrPath, whatever the path is.
func TestCheckOfNoPlace(t *testing.T) {
	root, paths := grow(numbered(5))
	all := append(paths, nil, []api.Step{{}}, make([]api.Step, 100))
	for _, n := range ints() {
		for _, i := range append(ints(), n, n/2, -n) {
			for _, path := range all {
				got := merkle.Check(root, []byte("x"), i, n, path)
				want := api.ErrRange
				if i >= 0 && i < n {
					want = api.ErrPath // no leaf is like that
				}
				if got != want {
					t.Errorf("%d of %d, %d steps: %d, want %d", i, n, len(path), got, want)
				}
			}
		}
	}
	if got := merkle.Check("", nil, 0, 0, nil); got != api.ErrRange {
		t.Errorf("of no leaf: %d", got)
	}
	if got := merkle.Check(term.Of(4), nil, 0, 0, nil); got != api.ErrRange {
		t.Errorf("of no leaf, with its root: %d", got)
	}
}

// sides tells, plainly, on which sides the other parts stand of place i of n, from above.
func sides(i, n int) []bool {
	if n < 2 {
		return nil
	}
	k := 1
	for k < n-k {
		k += k
	}
	if i < k {
		return append([]bool{false}, sides(i, k)...)
	}
	return append([]bool{true}, sides(i-k, n-k)...)
}

// put puts a tree together around one leaf: beside its way stand made up digests.
func put(b string, i, n int) (api.Digest, []api.Step) {
	d := leaf(b)
	var path []api.Step
	for j, onLeft := range slices.Backward(sides(i, n)) {
		beside := api.Digest(fmt.Append(nil, j))
		path = append(path, api.Step{Left: onLeft, Digest: beside})
		if onLeft {
			d = pair(beside, d)
		} else {
			d = pair(d, beside)
		}
	}
	return d, path
}

// TestCheckOfGreatTrees is of promise 9.3 (R6): a tree may be said to have any number of leaves.
func TestCheckOfGreatTrees(t *testing.T) {
	for _, n := range []int{1 << 31, 1<<32 - 1, 1<<32 + 1, 1 << 61, 1<<62 - 1, 1 << 62, 1<<62 + 1, 1<<62 + 2, math.MaxInt - 2, math.MaxInt - 1, math.MaxInt} {
		for _, i := range []int{0, 1, 2, 1 << 30, n / 3, n/2 - 1, n / 2, n/2 + 1, n - 3, n - 2, n - 1} {
			root, path := put("a", i, n)
			if got := merkle.Check(root, []byte("a"), i, n, path); got != api.OK {
				t.Errorf("%d of %d: %d", i, n, got)
			}
			if got := merkle.Check(root, []byte("b"), i, n, path); got != api.ErrPath {
				t.Errorf("%d of %d, another leaf: %d", i, n, got)
			}
			if got := merkle.Check(root, []byte("a"), n, n, path); got != api.ErrRange {
				t.Errorf("%d of %d: %d", n, n, got)
			}
			for j := range path {
				path[j].Left = !path[j].Left
				if got := merkle.Check(root, []byte("a"), i, n, path); got != api.ErrPath {
					t.Errorf("%d of %d, step %d on the other side: %d", i, n, j, got)
				}
				path[j].Left = !path[j].Left
			}
		}
	}
	if root, path := put("a", 1<<62, 1<<62+1); len(path) != 1 || merkle.Check(root, []byte("a"), 1<<62, 1<<62+1, path) != api.OK {
		t.Errorf("one behind a power of two: %d steps", len(path))
	}
	if _, path := put("a", 0, math.MaxInt); len(path) != 63 {
		t.Errorf("the longest path: %d steps", len(path))
	}
}

// TestCheckOfOtherCount is of promise 9.3: a count is told by the steps alone: one whose path has as many, on the same sides, is taken, and no other one.
func TestCheckOfOtherCount(t *testing.T) {
	for n := 1; n < 20; n++ {
		leaves := numbered(n)
		root, paths := grow(leaves)
		for i, path := range paths {
			for m := range 70 {
				want := api.ErrPath
				if i >= m {
					want = api.ErrRange
				} else if slices.Equal(sides(i, m), sides(i, n)) {
					want = api.OK
				}
				if got := merkle.Check(root, leaves[i], i, m, path); got != want {
					t.Errorf("%d of %d, said to be of %d: %d, want %d", i, n, m, got, want)
				}
			}
		}
	}
}

// TestCheckOfManySteps is of promise 9.3 (R1): a path may have far more steps than any tree.
func TestCheckOfManySteps(t *testing.T) {
	path := make([]api.Step, 1000000)
	for _, n := range []int{1, 2, 1 << 62, math.MaxInt} {
		if got := merkle.Check(leaf("a"), []byte("a"), 0, n, path); got != api.ErrPath {
			t.Errorf("of %d: %d", n, got)
		}
	}
}

// TestCheckLeavesPath is of promise 9.3 (R4, R5): the leaf and the path stay as they are, behind their ends too, and the answer is the same again.
func TestCheckLeavesPath(t *testing.T) {
	for n := 1; n < 20; n++ {
		leaves := loose(numbered(n))
		root, paths := grow(leaves)
		was := whole(leaves)
		for i, p := range paths {
			path := append(slices.Clone(p), left("behind"), right("behind"))
			steps := slices.Clone(path)
			for range 2 {
				if got := merkle.Check(root, leaves[i], i, n, path[:len(p)]); got != api.OK {
					t.Errorf("%d of %d: %d", i, n, got)
				}
				if got := merkle.Check(root, leaves[i], i, n, path); got != api.ErrPath {
					t.Errorf("%d of %d, two steps more: %d", i, n, got)
				}
			}
			if !isPath(path, steps) {
				t.Errorf("%d of %d: %#v, and then %#v", i, n, steps, path)
			}
		}
		if whole(leaves) != was {
			t.Errorf("%d leaves: %s, and then %s", n, was, whole(leaves))
		}
	}
}
