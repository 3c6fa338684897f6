package merkle_test

import (
	"bytes"
	"math/rand"
	"slices"
	"testing"

	"quaestor/api"
	"quaestor/merkle"
	"quaestor/term"
)

// TestPathProves is of promise 9.4: Path proves each leaf, and none at another place where another one stands.
func TestPathProves(t *testing.T) {
	for _, n := range counts() {
		leaves := numbered(n)
		root := merkle.Root(leaves)
		for i := range leaves {
			path, err := merkle.Path(leaves, i)
			if err != api.OK || merkle.Check(root, leaves[i], i, n, path) != api.OK {
				t.Fatalf("%d of %d is not proved", i, n)
			}
			for _, j := range []int{i - 1, i ^ 1, i + 1, n - 1 - i} {
				if j != i && (merkle.Check(root, leaves[i], j, n, path) == api.OK || j >= 0 && j < n && merkle.Check(root, leaves[j], i, n, path) == api.OK) {
					t.Fatalf("%d of %d is proved, where %d stands", i, n, j)
				}
			}
		}
	}
}

// short are all lists of up to most leaves, each one of three.
func short(most int) [][][]byte {
	all := [][][]byte{nil}
	for from := 0; len(all[len(all)-1]) < most; {
		to := len(all)
		for _, l := range all[from:to] {
			for _, s := range []string{"", "a", string(leaf("a"))} {
				all = append(all, append(slices.Clone(l), []byte(s)))
			}
		}
		from = to
	}
	return all
}

// TestOneTreeOneRoot is of promise 9.4: lists of leaves that are not the same have not the same root, however many they are.
func TestOneTreeOneRoot(t *testing.T) {
	seen := map[api.Digest][][]byte{}
	for _, l := range short(5) {
		d := merkle.Root(l)
		if was, ok := seen[d]; ok {
			t.Errorf("%q and %q: %x", was, l, d)
		}
		seen[d] = l
	}
	if len(seen) != 1+3+9+27+81+243 {
		t.Errorf("%d lists", len(seen))
	}
}

// pieces are all digests that a digest is made of, itself too, and one that is none.
func pieces(d api.Digest) []api.Digest {
	all := []api.Digest{"x"}
	for work := []api.Digest{d}; len(work) > 0; work = work[1:] {
		if slices.Contains(all, work[0]) {
			continue
		}
		all = append(all, work[0])
		if _, parts, ok := term.Open(work[0]); ok {
			for _, p := range parts {
				work = append(work, api.Digest(p))
			}
		}
	}
	return all
}

// routes are all paths of so many steps that are made of these digests.
func routes(steps int, digests []api.Digest) [][]api.Step {
	all := [][]api.Step{nil}
	for range steps {
		var longer [][]api.Step
		for _, path := range all {
			for _, d := range digests {
				longer = append(longer, append(slices.Clone(path), left(d)), append(slices.Clone(path), right(d)))
			}
		}
		all = longer
	}
	return all
}

// TestNoOtherPath is of promise 9.4: of all paths and leaves that can be made of what a root holds, none proves anything but what stands there, by Path's path.
func TestNoOtherPath(t *testing.T) {
	for _, leaves := range [][][]byte{rows("a"), rows("a", "a"), rows("a", "b"), rows("a", string(leaf("a"))), rows("a", "b", "c"), rows("a", "a", "a"), rows("a", "b", "a", "c"), same(4)} {
		n, root := len(leaves), merkle.Root(leaves)
		digests := pieces(root)
		var all [][]api.Step
		for steps := range 3 {
			all = append(all, routes(steps, digests)...)
		}
		for i := range leaves {
			want, _ := merkle.Path(leaves, i)
			for _, path := range all {
				for _, b := range digests {
					if merkle.Check(root, []byte(b), i, n, path) == api.OK && !(bytes.Equal([]byte(b), leaves[i]) && isPath(path, want)) {
						t.Errorf("%q at %d of %q is proved by %#v", b, i, leaves, path)
					}
				}
			}
		}
	}
}

// dice pick leaves, and what is changed of a proof.
type dice struct{ *rand.Rand }

// leaves are some, of which some are the same.
func (d dice) leaves() [][]byte {
	l := make([][]byte, 1+d.Intn(40))
	for i := range l {
		l[i] = make([]byte, d.Intn(4))
		for j := range l[i] {
			l[i][j] = byte(d.Intn(2))
		}
	}
	return l
}

// proof is what Check is handed.
type proof struct {
	root api.Digest
	leaf []byte
	i, n int
	path []api.Step
}

// change changes one thing of a proof, which is at times what it was.
func (d dice) change(p proof, leaves [][]byte) proof {
	p.path = slices.Clone(p.path)
	at := d.Intn(len(p.path) + 1)
	switch d.Intn(6) {
	case 0:
		p.leaf = leaves[d.Intn(len(leaves))]
	case 1:
		p.i = d.Intn(len(leaves)+4) - 2
	case 2:
		p.path = slices.Insert(p.path, at, api.Step{Left: d.Intn(2) == 0, Digest: term.Leaf(2, leaves[d.Intn(len(leaves))])})
	case 3:
		if at < len(p.path) {
			p.path = slices.Delete(p.path, at, at+1)
		}
	case 4:
		if at < len(p.path) {
			p.path[at].Left = !p.path[at].Left
		}
	case 5:
		if at < len(p.path) {
			p.path[at].Digest = term.Leaf(2, leaves[d.Intn(len(leaves))])
		}
	}
	return p
}

// TestWalkOfProofs is of promise 9.4: proofs that are changed, and changed again, prove only what stands there, by Path's path.
func TestWalkOfProofs(t *testing.T) {
	d := dice{rand.New(rand.NewSource(9))}
	taken := 0
	for range 4000 {
		leaves := d.leaves()
		i := d.Intn(len(leaves))
		path, _ := merkle.Path(leaves, i)
		p := proof{merkle.Root(leaves), leaves[i], i, len(leaves), path}
		for range 6 {
			p = d.change(p, leaves)
			want := api.ErrPath
			if p.i < 0 || p.i >= p.n {
				want = api.ErrRange
			} else if path, _ := merkle.Path(leaves, p.i); bytes.Equal(p.leaf, leaves[p.i]) && isPath(p.path, path) {
				want = api.OK
				taken++
			}
			if got := merkle.Check(p.root, p.leaf, p.i, p.n, p.path); got != want {
				t.Fatalf("%q at %d of %q by %#v: %d, want %d", p.leaf, p.i, leaves, p.path, got, want)
			}
		}
	}
	if taken < 1000 {
		t.Errorf("only %d were proofs", taken)
	}
}

// FuzzCheck is of promise 9.4: what is proved of a root that leaves have, cut out of whatever bytes, stands there, and is proved by Path's path.
func FuzzCheck(f *testing.F) {
	f.Add([]byte("a,b,c"), []byte("b"), 1, []byte("a"), true, []byte("c"), false)
	f.Add([]byte(""), []byte(""), 0, []byte(""), false, []byte(""), false)
	f.Add([]byte("a,a,a,a"), []byte("a"), 3, []byte("a"), true, []byte("a"), true)
	f.Fuzz(func(t *testing.T, all, b []byte, i int, one []byte, oneLeft bool, two []byte, twoLeft bool) {
		leaves := bytes.Split(all, []byte(","))
		root := merkle.Root(leaves)
		steps := []api.Step{{Left: oneLeft, Digest: term.Leaf(2, one)}, {Left: twoLeft, Digest: term.Leaf(2, two)}}
		want, wrong := merkle.Path(leaves, i)
		for k := range 3 {
			err := merkle.Check(root, b, i, len(leaves), steps[:k])
			if (err == api.ErrRange) != (wrong == api.ErrRange) {
				t.Fatalf("%d of %d: %d, and Path's %d", i, len(leaves), err, wrong)
			}
			if (err == api.OK) != (wrong == api.OK && bytes.Equal(b, leaves[i]) && isPath(steps[:k], want)) {
				t.Fatalf("%q at %d of %q by %#v: %d", b, i, leaves, steps[:k], err)
			}
		}
	})
}
