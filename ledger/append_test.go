package ledger_test

import (
	"math"
	"strings"
	"testing"

	"quaestor/api"
	"quaestor/ledger"
	"quaestor/term"
)

// TestNew is of promise 11.1: the first mark, to the byte, and no blocks.
func TestNew(t *testing.T) {
	if first != term.Of(6) {
		t.Fatalf("%q, want %q", first, term.Of(6))
	}
	has(t, "new", ledger.New(), plain{digest: first})
}

// TestNewIsNew is of promise 11.1 (R5): what is done to one new ledger is nothing to another one.
func TestNewIsNew(t *testing.T) {
	l, m := ledger.New(), ledger.New()
	all := grow(t, l, 3)
	has(t, "grown", l, plain{digest: first, blocks: all})
	has(t, "other", m, plain{digest: first})
	has(t, "later", ledger.New(), plain{digest: first})
}

// TestFrom is of promise 11.1: each height to the ends, and any digest.
func TestFrom(t *testing.T) {
	for _, h := range ints() {
		for _, d := range []api.Digest{"", "x", first, api.Digest(strings.Repeat("d", 3000))} {
			l, err := ledger.From(h, d)
			if h < 0 || h > lastHeight {
				if l != nil || err != api.ErrHeight {
					t.Errorf("from %d: %v, %d", h, l, err)
				}
				continue
			}
			if err != api.OK {
				t.Fatalf("from %d: %d", h, err)
			}
			has(t, "from", l, plain{height: h, digest: d})
		}
	}
}

// TestFromNothing is of promise 11.1: a mark that has nothing in it is a mark, on which blocks stand.
func TestFromNothing(t *testing.T) {
	l := from(t, 0, "")
	if err := l.Cut(0); err != api.OK {
		t.Errorf("cut: %d", err)
	}
	if err := l.Clone().Cut(0); err != api.OK {
		t.Errorf("cut of the clone: %d", err)
	}
	all := grow(t, l, 2)
	if all[0].Prev != "" {
		t.Errorf("on %q", all[0].Prev)
	}
	has(t, "from nothing", l, plain{blocks: all})
}

// TestAppend is of promise 11.1: block by block, from several marks, the heads by hand.
func TestAppend(t *testing.T) {
	for _, p := range []plain{{digest: first}, {height: 1, digest: first}, {height: 7}, {height: 1 << 32, digest: "x"}, {height: lastHeight - 12, digest: "end"}} {
		l := from(t, p.height, p.digest)
		for i := range 12 {
			h, head := p.last()
			b := numbered(h+1, i%3, head)
			if err := l.Append(b); err != api.OK {
				t.Fatalf("height %d: %d", h+1, err)
			}
			if got, want := l.Head(), header(b); got != want {
				t.Fatalf("height %d: head %q, want %q", h+1, got, want)
			}
			p.blocks = append(p.blocks, b)
			has(t, "grown", l, p)
		}
	}
}

// TestAppendAll is of promise 11.1: blocks of each count of requests, of the longest and of numbers that are hardly any.
func TestAppendAll(t *testing.T) {
	l := ledger.New()
	p := plain{digest: first}
	put := func(b api.Block) {
		t.Helper()
		if err := l.Append(b); err != api.OK {
			t.Fatalf("height %d: %d", b.Height, err)
		}
		p.blocks = append(p.blocks, b)
	}
	for n := range api.MaxBatch + 1 {
		put(numbered(l.Height()+1, n, l.Head()))
	}
	put(api.Block{
		Height:   l.Height() + 1,
		Prev:     l.Head(),
		Requests: []api.Envelope{signed(math.MinInt, ""), signed(math.MaxInt, "\x00"), signed(-1, strings.Repeat("b", 70000)), {}},
		Results:  []api.Result{came(math.MaxInt, math.MinInt), came(math.MinInt, math.MaxInt), came(-1, -1), {}},
	})
	put(api.Block{Height: l.Height() + 1, Prev: l.Head(), Requests: []api.Envelope{}, Results: []api.Result{}})
	has(t, "all", l, p)
}

// refuse holds that a block is not appended, and that nothing is changed by it.
func refuse(t *testing.T, l *ledger.Ledger, p plain, b api.Block, want api.Errno) {
	t.Helper()
	if err := l.Append(b); err != want {
		t.Errorf("height %d on %q, %d requests, %d results: %d, want %d", b.Height, b.Prev, len(b.Requests), len(b.Results), err, want)
	}
	has(t, "refused", l, p)
}

// TestAppendOfWrongHeights is of promise 11.1: a height that is not the next; it is told ahead of what the block stands on.
func TestAppendOfWrongHeights(t *testing.T) {
	for _, n := range []int{0, 1, 3} {
		l := ledger.New()
		p := plain{digest: first, blocks: grow(t, l, n)}
		for _, h := range append(ints(), n-1, n, n+2) {
			if h == n+1 {
				continue
			}
			refuse(t, l, p, numbered(h, 1, l.Head()), api.ErrHeight)
			refuse(t, l, p, numbered(h, 1, "x"), api.ErrHeight)
			refuse(t, l, p, api.Block{Height: h}, api.ErrHeight)
		}
		for _, b := range p.blocks {
			refuse(t, l, p, b, api.ErrHeight)
		}
	}
}

// TestAppendAtTheEnd is of promise 11.1: behind the last height there is none.
func TestAppendAtTheEnd(t *testing.T) {
	l := from(t, lastHeight-1, "x")
	p := plain{height: lastHeight - 1, digest: "x", blocks: grow(t, l, 1)}
	refuse(t, l, p, numbered(lastHeight+1, 1, l.Head()), api.ErrHeight)
	refuse(t, l, p, numbered(lastHeight, 1, l.Head()), api.ErrHeight)
	l = from(t, lastHeight, "y")
	refuse(t, l, plain{height: lastHeight, digest: "y"}, api.Block{Height: lastHeight + 1, Prev: "y"}, api.ErrHeight)
}

// TestAppendOfWrongBlocks is of promise 11.1: block's Check comes first, whatever the height and what the block stands on.
func TestAppendOfWrongBlocks(t *testing.T) {
	l := ledger.New()
	p := plain{digest: first, blocks: grow(t, l, 2)}
	for _, n := range [][2]int{{1, 0}, {0, 1}, {3, 4}, {4, 3}, {4, 5}, {5, 4}, {5, 5}, {100, 100}} {
		for _, h := range []int{1, 2, 3, 4, lastHeight} {
			for _, prev := range []api.Digest{l.Head(), "x"} {
				b := numbered(h, max(n[0], n[1]), prev)
				b.Requests, b.Results = b.Requests[:n[0]], b.Results[:n[1]]
				refuse(t, l, p, b, api.ErrBlock)
				for _, none := range []int{0, -1, lastHeight + 1} {
					b.Height = none
					refuse(t, l, p, b, api.ErrHeight)
				}
			}
		}
	}
}

// TestAppendOfWrongPrev is of promise 11.1: a block that stands on anything but the head.
func TestAppendOfWrongPrev(t *testing.T) {
	for _, n := range []int{0, 1, 3} {
		l := ledger.New()
		p := plain{digest: first, blocks: grow(t, l, n)}
		head := l.Head()
		flipped := []byte(head)
		flipped[len(flipped)-1] ^= 1
		others := []api.Digest{"", "x", head + "x", head[1:], head[:len(head)-1], api.Digest(flipped)}
		for _, b := range p.blocks {
			others = append(others, b.Prev)
		}
		if n > 0 {
			last := twin(p.blocks[n-1])
			last.Results = append(last.Results, came(1, 1))
			last.Requests = append(last.Requests, signed(1000, "another one"))
			others = append(others, digest(last))
		}
		for _, d := range others {
			refuse(t, l, p, numbered(n+1, 2, d), api.ErrPrev)
		}
		p.blocks = append(p.blocks, grow(t, l, 1)...) // it goes on as if nothing had been
		has(t, "after", l, p)
	}
}

// TestAppendLeavesAll is of promise 11.1 (R4): a block that is handed in stays as it is, and is not kept.
func TestAppendLeavesAll(t *testing.T) {
	l := ledger.New()
	p := plain{digest: first}
	for n := range api.MaxBatch + 1 {
		b := numbered(n+1, n, l.Head())
		handed := loose(b)
		was := whole(handed)
		if err := l.Append(handed); err != api.OK || whole(handed) != was {
			t.Errorf("%d requests: %d; %s, and then %s", n, err, was, whole(handed))
		}
		spoil(handed)
		p.blocks = append(p.blocks, b)
		has(t, "spoilt", l, p)
	}
	wrong := loose(numbered(9, 3, "x"))
	was := whole(wrong)
	if l.Append(wrong); whole(wrong) != was {
		t.Errorf("%s, and then %s", was, whole(wrong))
	}
}

// TestBlockIsNew is of promise 11.1 (R4, R5): a block that is handed out twice shares nothing, and nothing with what is kept.
func TestBlockIsNew(t *testing.T) {
	l := ledger.New()
	p := plain{digest: first, blocks: grow(t, l, 5)}
	for _, want := range p.blocks {
		one, _ := l.Block(want.Height)
		other, err := l.Block(want.Height)
		spoil(one)
		if err != api.OK || !same(other, want) {
			t.Errorf("height %d: %#v goes with the other one", want.Height, other)
		}
	}
	has(t, "spoilt", l, p)
}

// TestBlockSharesNone is of promise 11.1 (R4): what is put behind one body of a block stands in no other one.
func TestBlockSharesNone(t *testing.T) {
	l := ledger.New()
	all := grow(t, l, 4)
	got, _ := l.Block(4)
	for _, e := range got.Requests {
		_ = append(e.Body, "behind, and more behind"...)
	}
	if len(got.Requests) != 4 || !same(got, all[3]) {
		t.Errorf("%#v, want %#v", got, all[3])
	}
}

// TestUnmade is of promise 11.1 (R1): what a nil ledger tells, and one that nobody made; nothing can be done to them.
func TestUnmade(t *testing.T) {
	for name, l := range unmade() {
		for range 2 {
			has(t, name, l, plain{})
			for _, h := range ints() {
				if err := l.Append(api.Block{Height: h}); err != api.ErrArg {
					t.Errorf("%s: append of height %d: %d", name, h, err)
				}
				if err := l.Append(numbered(h, 5, "x")); err != api.ErrArg {
					t.Errorf("%s: append of five requests of height %d: %d", name, h, err)
				}
				if err := l.Cut(h); err != api.ErrArg {
					t.Errorf("%s: cut at %d: %d", name, h, err)
				}
			}
		}
	}
}
