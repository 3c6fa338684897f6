package ledger_test

import (
	"runtime"
	"slices"
	"strings"
	"testing"

	"quaestor/api"
	"quaestor/ledger"
)

// TestCut is of promise 11.2: at each height from the mark's to the last one, from several marks.
func TestCut(t *testing.T) {
	for _, at := range []plain{{digest: first}, {height: 7, digest: "x"}, {height: lastHeight - 6}} {
		for n := range 7 {
			for k := range n + 1 {
				l := from(t, at.height, at.digest)
				all := grow(t, l, n)
				if err := l.Cut(at.height + k); err != api.OK {
					t.Fatalf("cut at %d: %d", at.height+k, err)
				}
				height, d := plain{at.height, at.digest, all[:k]}.last()
				has(t, "cut", l, plain{height, d, all[k:]})
			}
		}
	}
}

// TestCutOfNone is of promise 11.2: heights that are ahead of the mark, or not there yet; nothing is changed.
func TestCutOfNone(t *testing.T) {
	for _, at := range []plain{{digest: first}, {height: 5, digest: "x"}, {height: lastHeight - 3}} {
		for n := range 4 {
			l := from(t, at.height, at.digest)
			p := plain{at.height, at.digest, grow(t, l, n)}
			for _, h := range append(ints(), at.height-1, at.height+n+1) {
				if h >= at.height && h <= at.height+n {
					continue
				}
				if err := l.Cut(h); err != api.ErrRange {
					t.Errorf("cut at %d: %d", h, err)
				}
			}
			has(t, "not cut", l, p)
		}
	}
}

// TestCutAgain is of promise 11.2: cut by cut, the same height twice, and one that is gone.
func TestCutAgain(t *testing.T) {
	l := ledger.New()
	all := grow(t, l, 6)
	for _, x := range []struct {
		h    int
		want api.Errno
		mark int
	}{
		{0, api.OK, 0}, {2, api.OK, 2}, {2, api.OK, 2}, {1, api.ErrRange, 2}, {0, api.ErrRange, 2}, {7, api.ErrRange, 2},
		{3, api.OK, 3}, {6, api.OK, 6}, {5, api.ErrRange, 6}, {6, api.OK, 6}, {7, api.ErrRange, 6},
	} {
		if err := l.Cut(x.h); err != x.want {
			t.Errorf("cut at %d: %d, want %d", x.h, err, x.want)
		}
		height, d := plain{0, first, all[:x.mark]}.last()
		has(t, "cut", l, plain{height, d, all[x.mark:]})
	}
	more := grow(t, l, 2)
	has(t, "grown", l, plain{6, digest(all[5]), more})
}

// held tells how many bytes are in use.
func held() int {
	runtime.GC()
	var m runtime.MemStats
	runtime.ReadMemStats(&m)
	return int(m.HeapAlloc)
}

// long is a ledger of two blocks, the first one of which has a request of so many bytes.
func long(t *testing.T, size int) *ledger.Ledger {
	t.Helper()
	l := ledger.New()
	for _, body := range []string{strings.Repeat("x", size), ""} {
		b := api.Block{Height: l.Height() + 1, Prev: l.Head(), Requests: []api.Envelope{signed(1000, body)}, Results: []api.Result{{}}}
		if err := l.Append(b); err != api.OK {
			t.Fatal(b.Height, err)
		}
	}
	return l
}

// TestCutIsGone is of promise 11.2 (P7): blocks that are cut off are held no more, be one left or none. (Of what the long one holds a copy stays in the mark's digest, and another one in what the second block stands on.)
func TestCutIsGone(t *testing.T) {
	const size = 1 << 24
	for h, copies := range map[int]int{1: 2, 2: 1} {
		before := held()
		l := long(t, size)
		if err := l.Cut(h); err != api.OK {
			t.Fatalf("cut at %d: %d", h, err)
		}
		if got := held() - before; got > copies*size+size/2 {
			t.Errorf("cut at %d: %d bytes are held", h, got)
		}
		runtime.KeepAlive(l)
	}
}

// TestClone is of promise 11.2: what is done to a clone is nothing to the one that it is of, nor the other way round.
func TestClone(t *testing.T) {
	for n := range 6 {
		for k := range n + 1 {
			l := from(t, 3, "x")
			all := grow(t, l, n)
			if err := l.Cut(3 + k); err != api.OK {
				t.Fatalf("cut at %d: %d", 3+k, err)
			}
			height, d := plain{3, "x", all[:k]}.last()
			p := plain{height, d, all[k:]}
			m := l.Clone()
			has(t, "clone", m, p)
			has(t, "of it", l, p)

			here := numbered(4+n, 2, l.Head())
			there := numbered(4+n, 3, l.Head())
			if l.Append(here) != api.OK || m.Append(there) != api.OK {
				t.Fatal("not appended")
			}
			p.blocks = append(slices.Clone(all[k:]), here)
			q := plain{height, d, append(slices.Clone(all[k:]), there)}
			has(t, "appended to", l, p)
			has(t, "clone appended to", m, q)

			if err := m.Cut(4 + n); err != api.OK {
				t.Fatalf("cut of the clone: %d", err)
			}
			has(t, "clone cut", m, plain{4 + n, digest(there), nil})
			has(t, "its clone cut", l, p)
			if err := l.Cut(height); err != api.OK {
				t.Fatalf("cut: %d", err)
			}
			has(t, "cut", l, p)
		}
	}
}

// TestCloneOfClones is of promise 11.2: clones that grow side by side from one, and one from another, know nothing of one another.
func TestCloneOfClones(t *testing.T) {
	l := ledger.New()
	all := grow(t, l, 3) // three: room for a fourth one may stand behind them
	side := []*ledger.Ledger{l, l.Clone(), l.Clone()}
	side = append(side, side[1].Clone())
	for i, m := range side {
		if err := m.Append(numbered(4, i, m.Head())); err != api.OK {
			t.Fatal(i, err)
		}
	}
	for i, m := range side {
		has(t, "side", m, plain{0, first, append(slices.Clone(all), numbered(4, i, digest(all[2])))})
	}
}

// TestCloneIsNew is of promise 11.2 (R4): a clone's blocks, handed out and written over, are nobody's but the caller's.
func TestCloneIsNew(t *testing.T) {
	l := ledger.New()
	p := plain{digest: first, blocks: grow(t, l, 5)}
	m := l.Clone()
	for _, x := range []*ledger.Ledger{l, m} {
		for _, b := range p.blocks {
			got, _ := x.Block(b.Height)
			spoil(got)
		}
	}
	has(t, "clone", m, p)
	has(t, "of it", l, p)
}

// TestCloneOfUnmade is of promise 11.2 (R1): a clone of what nobody made is one that nobody made.
func TestCloneOfUnmade(t *testing.T) {
	for name, l := range unmade() {
		m := l.Clone()
		if (m == nil) != (l == nil) {
			t.Errorf("%s: %v", name, m)
		}
		has(t, name, m, plain{})
		if a, c := m.Append(api.Block{Height: 1}), m.Cut(0); a != api.ErrArg || c != api.ErrArg {
			t.Errorf("%s: append %d, cut %d", name, a, c)
		}
	}
}
