package block_test

import (
	"bytes"
	"math"
	"math/rand"
	"slices"
	"testing"

	"quaestor/api"
	"quaestor/block"
	"quaestor/term"
)

// near are blocks that are close to one another: some differ in one thing alone, some have the same bytes elsewhere.
func near() []api.Block {
	var all []api.Block
	for _, h := range []int{1, 2, lastHeight} {
		for _, prev := range []api.Digest{"", "\x00", "p", term.Of(6)} {
			all = append(all, api.Block{Height: h, Prev: prev})
		}
	}
	for _, signer := range []int{0, 1, 1000} {
		for _, body := range []string{"", "\x00", "a", string(word(1))} {
			for _, code := range []api.Errno{0, 1, -1} {
				for _, stage := range []int{0, 1, -1} {
					b := api.Block{Height: 1, Requests: []api.Envelope{signed(signer, body)}, Results: []api.Result{came(code, stage)}}
					all = append(all, b)
				}
			}
		}
	}
	for n := 2; n <= api.MaxBatch; n++ {
		all = append(all, numbered(n))
		for i := range n - 1 {
			crossed, swapped, twice := twin(numbered(n)), twin(numbered(n)), twin(numbered(n))
			crossed.Results[i], crossed.Results[i+1] = crossed.Results[i+1], crossed.Results[i]
			swapped.Results[i], swapped.Results[i+1] = swapped.Results[i+1], swapped.Results[i]
			swapped.Requests[i], swapped.Requests[i+1] = swapped.Requests[i+1], swapped.Requests[i]
			twice.Requests[i+1], twice.Results[i+1] = twice.Requests[i], twice.Results[i]
			all = append(all, crossed, swapped, twice)
		}
	}
	return append(all, tree())
}

// tree is a block whose one request is, as a body, what stands in the tree of another block.
func tree() api.Block {
	d := term.Pair(3, leaf(0), leaf(1))
	return api.Block{Height: 7, Prev: term.Of(6), Requests: []api.Envelope{signed(1000, string(d))}, Results: []api.Result{{}}}
}

// TestOneDigestOneBlock is of promise 10.4: blocks that are not the same have neither the same digest nor the same bytes; those that are have both.
func TestOneDigestOneBlock(t *testing.T) {
	digests, rows := map[api.Digest]api.Block{}, map[string]api.Block{}
	for _, b := range near() {
		d, x := block.Digest(block.Header(b)), string(block.Put(b))
		if was, ok := digests[d]; ok && !same(was, b) {
			t.Errorf("%#v and %#v: one digest", was, b)
		}
		if was, ok := rows[x]; ok && !same(was, b) {
			t.Errorf("%#v and %#v: one row of bytes", was, b)
		}
		digests[d], rows[x] = b, b
		if c := twin(b); block.Digest(block.Header(c)) != d || string(block.Put(c)) != x {
			t.Errorf("%#v and its twin: not the same", b)
		}
	}
	if want := 12 + 108 + 3 + 3*(1+2+3) + 1; len(digests) != want || len(rows) != want {
		t.Errorf("%d digests, %d rows of bytes, want %d", len(digests), len(rows), want)
	}
}

// TestOneDigestOneHeader is of promise 10.4: headers that are not the same have not the same digest, whatever is said of a count.
func TestOneDigestOneHeader(t *testing.T) {
	seen := map[api.Digest]api.Header{}
	for _, height := range []int{math.MinInt, -1, 0, 1, 2, math.MaxInt} {
		for _, prev := range []api.Digest{"", "a", "aa"} {
			for _, count := range []int{math.MinInt, -1, 0, 1, 2, math.MaxInt} {
				for _, root := range []api.Digest{"", "a", "aa", term.Of(4)} {
					h := api.Header{Height: height, Prev: prev, Count: count, Root: root}
					d := block.Digest(h)
					if was, ok := seen[d]; ok {
						t.Errorf("%#v and %#v: one digest", was, h)
					}
					seen[d] = h
				}
			}
		}
	}
}

// TestDigestHoldsRoot is of promise 10.4: a block's digest is made of what is ahead of it and of its root, and is that of no tree.
func TestDigestHoldsRoot(t *testing.T) {
	for _, b := range near() {
		h := block.Header(b)
		tag, parts, ok := term.Open(block.Digest(h))
		if !ok || tag != 5 || len(parts) != 4 || api.Digest(parts[1]) != b.Prev || api.Digest(parts[3]) != h.Root {
			t.Errorf("%#v: %d, %x, %v", b, tag, parts, ok)
		}
	}
}

// TestProveIncluded is of promise 10.4: what Prove proves is included, and nothing else by that path, at any place of any of these blocks.
func TestProveIncluded(t *testing.T) {
	all := slices.Concat(blocks(), near()[100:])
	for _, b := range all {
		h := block.Header(b)
		for i := range b.Requests {
			path, err := block.Prove(b, i)
			if err != api.OK || block.Included(h, i, b.Requests[i], b.Results[i], path) != api.OK {
				t.Fatalf("%d of %#v is not proved", i, b)
			}
			for _, c := range all {
				for j := range c.Requests {
					stands := j < len(b.Requests) && sameEnvelope(b.Requests[j], c.Requests[j]) && b.Results[j] == c.Results[j] && j == i
					if got := block.Included(h, j, c.Requests[j], c.Results[j], path); got == api.OK && !stands {
						t.Fatalf("%d of %#v is proved to stand in %#v", j, c, b)
					}
				}
			}
		}
	}
}

// dice pick blocks, and what is changed of a proof.
type dice struct{ *rand.Rand }

func (d dice) number() int {
	return []int{0, 1, -1, 2, 1000, 1001, math.MaxInt, math.MinInt}[d.Intn(8)]
}

func (d dice) request() (api.Envelope, api.Result) {
	body := make([]byte, d.Intn(4))
	for i := range body {
		body[i] = byte(d.Intn(2))
	}
	return api.Envelope{Signer: d.number(), Body: body}, came(api.Errno(d.number()), d.number())
}

func (d dice) block() api.Block {
	b := api.Block{Height: 1 + d.Intn(3), Prev: []api.Digest{"", "p", term.Of(6)}[d.Intn(3)]}
	for range d.Intn(api.MaxBatch + 1) {
		e, r := d.request()
		b.Requests, b.Results = append(b.Requests, e), append(b.Results, r)
	}
	return b
}

// proof is what Included is handed, but for the header.
type proof struct {
	i    int
	e    api.Envelope
	r    api.Result
	path []api.Step
}

// change changes one thing of a proof of a block, which is at times what it was.
func (d dice) change(p proof, b api.Block) proof {
	p.path = slices.Clone(p.path)
	at, j := d.Intn(len(p.path)+1), d.Intn(len(b.Requests))
	switch d.Intn(7) {
	case 0:
		p.e = b.Requests[j]
	case 1:
		p.r = b.Results[j]
	case 2:
		p.i = d.Intn(len(b.Requests)+2) - 1
	case 3:
		p.path, _ = block.Prove(b, j)
	case 4:
		p.e, p.r = d.request()
	case 5:
		if at < len(p.path) {
			p.path[at].Left = !p.path[at].Left
		}
	case 6:
		if at < len(p.path) {
			p.path[at].Digest = term.Leaf(2, leafBytes(b.Requests[j], b.Results[j]))
		}
	}
	return p
}

// want tells what is to be said of a proof: it is taken just if it is Prove's of what stands there.
func (p proof) want(b api.Block) api.Errno {
	if p.i < 0 || p.i >= len(b.Requests) {
		return api.ErrRange
	}
	path, _ := block.Prove(b, p.i)
	if sameEnvelope(p.e, b.Requests[p.i]) && p.r == b.Results[p.i] && slices.Equal(p.path, path) {
		return api.OK
	}
	return api.ErrPath
}

// TestWalkOfBlocks is of promise 10.4: random blocks are got as they were put; their proofs, changed and changed again, prove only what stands there.
func TestWalkOfBlocks(t *testing.T) {
	d := dice{rand.New(rand.NewSource(10))}
	taken := 0
	for range 4000 {
		b := d.block()
		x := block.Put(b)
		if got, err := block.Get(x); err != api.OK || !same(got, b) || !bytes.Equal(x, blockBytes(b)) {
			t.Fatalf("%#v: %#v, %d", b, got, err)
		}
		if len(b.Requests) == 0 {
			continue
		}
		h, i := block.Header(b), d.Intn(len(b.Requests))
		path, _ := block.Prove(b, i)
		p := proof{i, b.Requests[i], b.Results[i], path}
		for range 6 {
			p = d.change(p, b)
			want := p.want(b)
			if got := block.Included(h, p.i, p.e, p.r, p.path); got != want {
				t.Fatalf("%#v of %#v: %d, want %d", p, b, got, want)
			}
			if want == api.OK {
				taken++
			}
		}
	}
	if taken < 1000 {
		t.Errorf("%d proofs taken: too few to tell", taken)
	}
}

// TestWalkOfBytes is of promise 10.4: bytes that are changed are refused, or are the bytes of another block.
func TestWalkOfBytes(t *testing.T) {
	d := dice{rand.New(rand.NewSource(11))}
	for range 20000 {
		x := block.Put(d.block())
		was := bytes.Clone(x)
		for range 1 + d.Intn(2) {
			x[d.Intn(len(x))] ^= 1 << d.Intn(8)
		}
		held(t, x)
		if b, err := block.Get(x); err == api.OK && !bytes.Equal(x, was) {
			if old, _ := block.Get(was); same(old, b) {
				t.Fatalf("%x and %x: one block", was, x)
			}
		}
	}
}

// held holds of any bytes what 10.3 says of Get.
func held(t *testing.T, x []byte) {
	t.Helper()
	b, err := block.Get(x)
	switch {
	case err == api.ErrForm && same(b, api.Block{}):
	case err == api.OK && block.Check(b) == api.OK && bytes.Equal(block.Put(b), x) && bytes.Equal(blockBytes(b), x):
	default:
		t.Fatalf("%x: %#v, %d", x, b, err)
	}
}

// FuzzGet is of promise 10.3 and 10.4: bytes are refused, or Put puts them of the block that is got.
func FuzzGet(f *testing.F) {
	for _, b := range blocks() {
		if x := block.Put(b); len(x) < 1000 {
			f.Add(x)
		}
	}
	f.Add([]byte{})
	f.Fuzz(func(t *testing.T, x []byte) { held(t, x) })
}
