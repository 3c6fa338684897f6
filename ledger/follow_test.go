package ledger_test

import (
	"bytes"
	"fmt"
	"math/rand"
	"slices"
	"testing"

	"quaestor/api"
	"quaestor/ledger"
	"quaestor/term"
)

// choices are blocks that may stand at a height on a digest, of which some differ in one thing alone.
func choices(height int, prev api.Digest) []api.Block {
	one := func(signer int, body string, code api.Errno, stage int) api.Block {
		return api.Block{Height: height, Prev: prev, Requests: []api.Envelope{signed(signer, body)}, Results: []api.Result{came(code, stage)}}
	}
	swapped, crossed := numbered(height, 2, prev), numbered(height, 2, prev)
	slices.Reverse(swapped.Requests)
	slices.Reverse(swapped.Results)
	slices.Reverse(crossed.Results)
	return []api.Block{
		numbered(height, 0, prev),
		numbered(height, 2, prev),
		swapped,
		crossed,
		numbered(height, 4, prev),
		one(1000, "", 0, 0),
		one(1001, "", 0, 0),
		one(1000, "\x00", 0, 0),
		one(1000, "on "+string(prev), 0, 0),
		one(1000, "", 1, 0),
		one(1000, "", 0, -1),
	}
}

// chains are all ledgers from one mark of up to so many blocks of those choices, with what they have.
func chains(t *testing.T, p plain, most int) map[*ledger.Ledger]plain {
	t.Helper()
	all := map[*ledger.Ledger]plain{}
	var grown func(l *ledger.Ledger, p plain)
	grown = func(l *ledger.Ledger, p plain) {
		all[l] = p
		if len(p.blocks) == most {
			return
		}
		for _, b := range choices(l.Height()+1, l.Head()) {
			m := l.Clone()
			if err := m.Append(b); err != api.OK {
				t.Fatal(b.Height, err)
			}
			grown(m, plain{p.height, p.digest, append(slices.Clone(p.blocks), b)})
		}
	}
	grown(from(t, p.height, p.digest), p)
	return all
}

// TestOneHeadOneChain is of promise 11.4: ledgers from one mark that do not have the same blocks do not have the same head.
func TestOneHeadOneChain(t *testing.T) {
	for _, p := range []plain{{digest: first}, {height: 5}, {height: lastHeight - 3, digest: term.Of(5)}} {
		heads := map[api.Digest]plain{}
		all := chains(t, p, 3)
		for l, q := range all {
			if was, ok := heads[l.Head()]; ok {
				t.Fatalf("%#v and %#v: one head", was, q)
			}
			heads[l.Head()] = q
			if h, head := q.last(); l.Height() != h || l.Head() != head {
				t.Errorf("%#v: height %d, head %q", q, l.Height(), l.Head())
			}
		}
		if want := 1 + 11 + 11*11 + 11*11*11; len(all) != want || len(heads) != want {
			t.Errorf("%d ledgers, %d heads, want %d", len(all), len(heads), want)
		}
	}
}

// TestSameBlocksSameHead is of promise 11.4 (R5): the same blocks on the same mark have the same head, however it came to be.
func TestSameBlocksSameHead(t *testing.T) {
	l, m := ledger.New(), from(t, 0, first)
	all := grow(t, l, 4)
	for _, b := range all {
		if err := m.Append(b); err != api.OK {
			t.Fatal(b.Height, err)
		}
	}
	for h := range 5 {
		c := l.Clone()
		if err := c.Cut(h); err != api.OK {
			t.Fatal(h, err)
		}
		n := from(t, h, plain{0, first, all[:h]}.headOf())
		for _, b := range all[h:] {
			if err := n.Append(b); err != api.OK {
				t.Fatal(h, b.Height, err)
			}
		}
		if l.Head() != m.Head() || c.Head() != m.Head() || n.Head() != m.Head() {
			t.Errorf("from %d on: other heads", h)
		}
	}
}

func (p plain) headOf() api.Digest {
	_, d := p.last()
	return d
}

// dice pick what is done to ledgers.
type dice struct{ *rand.Rand }

// block is one that may be next, or one that is wrong in one thing, or in two.
func (d dice) block(p plain) api.Block {
	h, head := p.last()
	b := numbered(h+1, d.Intn(api.MaxBatch+1), head)
	if d.Intn(3) == 0 {
		b.Height += d.Intn(5) - 2
	}
	if d.Intn(4) == 0 {
		b.Prev = []api.Digest{"", "x", p.digest, first, head + "x"}[d.Intn(5)]
	}
	if d.Intn(6) == 0 {
		b.Results = append(b.Results, came(1, 1))
	}
	return b
}

// want tells what is to be said of a block that is appended to a ledger that has these.
func (p plain) want(b api.Block) api.Errno {
	h, head := p.last()
	switch {
	case b.Height < 1 || b.Height > lastHeight:
		return api.ErrHeight
	case len(b.Requests) != len(b.Results):
		return api.ErrBlock
	case b.Height != h+1:
		return api.ErrHeight
	case b.Prev != head:
		return api.ErrPrev
	}
	return api.OK
}

// TestWalk is of promises 11.1, 11.2 and 11.4: ledgers of which one is cut, and one cloned, again and again, while one is neither, take the same blocks and refuse the same ones.
func TestWalk(t *testing.T) {
	d := dice{rand.New(rand.NewSource(11))}
	errs := map[api.Errno]int{}
	for _, start := range []plain{{digest: first}, {height: 3, digest: "x"}, {height: lastHeight - 5}} {
		for range 40 {
			l, cut := from(t, start.height, start.digest), from(t, start.height, start.digest)
			p, q := start, start
			for range 30 {
				b := d.block(p)
				want := p.want(b)
				errs[want]++
				one, other := l.Append(twin(b)), cut.Append(twin(b))
				if one != want || other != want {
					t.Fatalf("height %d: %d and %d, want %d", b.Height, one, other, want)
				}
				if want == api.OK {
					p.blocks, q.blocks = append(p.blocks, b), append(q.blocks, b)
				}
				if d.Intn(3) == 0 {
					q = d.cut(t, cut, q)
				}
				if d.Intn(3) == 0 {
					cut = cut.Clone()
				}
				if l.Height() != cut.Height() || l.Head() != cut.Head() {
					t.Fatalf("heights %d and %d, heads %q and %q", l.Height(), cut.Height(), l.Head(), cut.Head())
				}
			}
			has(t, "whole", l, p)
			has(t, "cut", cut, q)
		}
	}
	for _, err := range []api.Errno{api.OK, api.ErrHeight, api.ErrBlock, api.ErrPrev} {
		if errs[err] < 100 {
			t.Errorf("%d was told %d times: too few to tell", err, errs[err])
		}
	}
}

// cut cuts a ledger somewhere, or nowhere, and tells what it should have then.
func (d dice) cut(t *testing.T, l *ledger.Ledger, p plain) plain {
	t.Helper()
	last, _ := p.last()
	h := p.height + d.Intn(last-p.height+3) - 1
	err := l.Cut(h)
	if h < p.height || h > last {
		if err != api.ErrRange {
			t.Fatalf("cut at %d of %d to %d: %d", h, p.height, last, err)
		}
		return p
	}
	if err != api.OK {
		t.Fatalf("cut at %d of %d to %d: %d", h, p.height, last, err)
	}
	k := h - p.height
	height, digest := plain{p.height, p.digest, p.blocks[:k]}.last()
	return plain{height, digest, slices.Clone(p.blocks[k:])}
}

// TestCutChangesNoHead is of promise 11.4: wherever a ledger is cut, its height and its head stay, and what may be appended.
func TestCutChangesNoHead(t *testing.T) {
	whole := ledger.New()
	p := plain{digest: first, blocks: grow(t, whole, 6)}
	height, head := p.last()
	for h := range 7 {
		l := whole.Clone()
		if err := l.Cut(h); err != api.OK || l.Height() != height || l.Head() != head {
			t.Errorf("cut at %d: %d, height %d, head %q", h, err, l.Height(), l.Head())
		}
		for _, b := range []api.Block{p.blocks[5], numbered(7, 1, ""), numbered(7, 1, first), numbered(8, 1, head), numbered(1, 1, first), {}} {
			if got, want := l.Append(b), whole.Clone().Append(b); got != want || got == api.OK {
				t.Errorf("cut at %d: height %d is %d, want %d", h, b.Height, got, want)
			}
		}
		if err := l.Append(numbered(7, 1, head)); err != api.OK {
			t.Errorf("cut at %d: %d", h, err)
		}
	}
}

// TestOneSealOneSnapshot is of promise 11.4: snapshots that are not the same have not the same bytes, nor the same seal.
func TestOneSealOneSnapshot(t *testing.T) {
	rows, seals := map[string]string{}, map[api.Digest]string{}
	count := 0
	for _, h := range ints() {
		for _, head := range texts()[:6] {
			for _, state := range texts()[:6] {
				b := ledger.Pack(h, api.Digest(head), []byte(state))
				name := fmt.Sprintf("%d %q %q", h, head, state)
				if was, ok := rows[string(b)]; ok {
					t.Errorf("%s and %s: one row of bytes", was, name)
				}
				seal := ledger.Seal(b)
				if was, ok := seals[seal]; ok {
					t.Errorf("%s and %s: one seal", was, name)
				}
				if again := ledger.Seal(ledger.Pack(h, api.Digest(head), []byte(state))); again != seal {
					t.Errorf("%s: two seals", name)
				}
				rows[string(b)], seals[seal] = name, name
				count++
			}
		}
	}
	if len(rows) != count || len(seals) != count {
		t.Errorf("%d rows of bytes, %d seals, want %d", len(rows), len(seals), count)
	}
}

// TestSealHoldsSnapshot is of promise 11.4: a seal is made of the snapshot, and is nothing else's digest.
func TestSealHoldsSnapshot(t *testing.T) {
	for _, s := range texts() {
		tag, held, ok := term.Open(ledger.Seal([]byte(s)))
		if !ok || tag != 7 || len(held) != 1 || string(held[0]) != s {
			t.Errorf("%q: %d, %x, %v", s, tag, held, ok)
		}
	}
}

// unpacks holds of any bytes what 11.3 says of Unpack.
func unpacks(t *testing.T, b []byte) {
	t.Helper()
	height, head, state, err := ledger.Unpack(b)
	switch {
	case err == api.ErrForm && height == 0 && head == "" && len(state) == 0:
	case err == api.OK && height >= 0 && height <= lastHeight && bytes.Equal(packed(height, string(head), string(state)), b) && bytes.Equal(ledger.Pack(height, head, state), b):
	default:
		t.Fatalf("%x: %d, %q, %q, %d", b, height, head, state, err)
	}
}

// TestWalkOfBytes is of promises 11.3 and 11.4: snapshots whose bytes are changed are refused, or are others.
func TestWalkOfBytes(t *testing.T) {
	d := dice{rand.New(rand.NewSource(12))}
	taken := 0
	for range 20000 {
		b := ledger.Pack(d.Intn(3), api.Digest(make([]byte, d.Intn(4))), make([]byte, d.Intn(4)))
		was := bytes.Clone(b)
		for range 1 + d.Intn(2) {
			b[d.Intn(len(b))] ^= 1 << d.Intn(8)
		}
		unpacks(t, b)
		height, head, state, err := ledger.Unpack(b)
		if err != api.OK {
			continue
		}
		taken++
		h, d, s, _ := ledger.Unpack(was)
		same := height == h && head == d && bytes.Equal(state, s)
		if same != bytes.Equal(b, was) || same != (ledger.Seal(b) == ledger.Seal(was)) {
			t.Fatalf("%x and %x: %d %q %q", was, b, height, head, state)
		}
	}
	if taken < 1000 {
		t.Errorf("%d taken: too few to tell", taken)
	}
}

// FuzzUnpack is of promises 11.3 and 11.4: bytes are refused, or Pack packs them of what is unpacked.
func FuzzUnpack(f *testing.F) {
	f.Add([]byte{})
	f.Add(packed(0, "", ""))
	f.Add(packed(lastHeight, string(first), "state"))
	f.Add(packed(-1, "d", "state"))
	f.Fuzz(unpacks)
}
