package ledger_test

import (
	"bytes"
	"encoding/binary"
	"encoding/hex"
	"fmt"
	"math"
	"slices"
	"strings"
	"testing"

	"quaestor/api"
	"quaestor/block"
	"quaestor/ledger"
	"quaestor/term"
)

// lastHeight is the last height that a mark or a block may have.
const lastHeight = 1 << 40

// first is the first mark's digest, byte by byte.
const first = api.Digest("\x06\x00\x00\x00\x00")

// Some numbers as eight bytes.
const (
	i0       = "0000000000000000"
	i1       = "0000000000000001"
	i2       = "0000000000000002"
	minusOne = "ffffffffffffffff"
	greatest = "7fffffffffffffff"
	least    = "8000000000000000"
)

// unhex makes bytes of hexadecimal digits; blanks may stand between them.
func unhex(t testing.TB, s string) []byte {
	t.Helper()
	b, err := hex.DecodeString(strings.ReplaceAll(s, " ", ""))
	if err != nil {
		t.Fatalf("%q: %v", s, err)
	}
	return b
}

// ints are numbers that a height may be, or none of them.
func ints() []int {
	return []int{math.MinInt, math.MinInt + 1, -1 << 40, -1 << 32, -2, -1, 0, 1, 2, 3, 4, 5, 6, 1000, 1 << 31, 1 << 32, lastHeight - 2, lastHeight - 1, lastHeight, lastHeight + 1, math.MaxInt - 1, math.MaxInt}
}

func signed(signer int, body string) api.Envelope {
	return api.Envelope{Signer: signer, Body: []byte(body)}
}

func came(code api.Errno, stage int) api.Result { return api.Result{Code: code, Stage: stage} }

// numbered is a block of n requests on a digest; those of other heights have other ones.
func numbered(height, n int, prev api.Digest) api.Block {
	b := api.Block{Height: height, Prev: prev}
	for i := range n {
		b.Requests = append(b.Requests, signed(1000+i, fmt.Sprintf("%d of %d", i, height)))
		b.Results = append(b.Results, came(api.Errno(i*10), i-1))
	}
	return b
}

// digest is what a block adds to a chain.
func digest(b api.Block) api.Digest { return block.Digest(block.Header(b)) }

// from makes a ledger of a mark that may be.
func from(t testing.TB, height int, d api.Digest) *ledger.Ledger {
	t.Helper()
	l, err := ledger.From(height, d)
	if l == nil || err != api.OK {
		t.Fatalf("from %d: %v, %d", height, l, err)
	}
	return l
}

// grow appends n blocks to a ledger and tells them; their counts of requests go round.
func grow(t testing.TB, l *ledger.Ledger, n int) []api.Block {
	t.Helper()
	var all []api.Block
	for range n {
		h := l.Height() + 1
		b := numbered(h, h%(api.MaxBatch+1), l.Head())
		if err := l.Append(twin(b)); err != api.OK {
			t.Fatalf("height %d: %d", h, err)
		}
		all = append(all, b)
	}
	return all
}

// plain is what a ledger should have, put down plainly.
type plain struct {
	height int
	digest api.Digest
	blocks []api.Block
}

// last is a ledger's last height and digest.
func (p plain) last() (int, api.Digest) {
	if n := len(p.blocks); n > 0 {
		return p.blocks[n-1].Height, digest(p.blocks[n-1])
	}
	return p.height, p.digest
}

// block is the block of a height.
func (p plain) block(h int) (api.Block, api.Errno) {
	for _, b := range p.blocks {
		if b.Height == h {
			return b, api.OK
		}
	}
	return api.Block{}, api.ErrNone
}

// has holds all that a ledger tells against what it should have.
func has(t testing.TB, name string, l *ledger.Ledger, p plain) {
	t.Helper()
	height, head := p.last()
	if l.Height() != height || l.Head() != head {
		t.Errorf("%s: height %d, head %q, want %d, %q", name, l.Height(), l.Head(), height, head)
	}
	if h, d := l.Base(); h != p.height || d != p.digest {
		t.Errorf("%s: mark %d, %q, want %d, %q", name, h, d, p.height, p.digest)
	}
	heights := append(ints(), p.height-1, p.height, p.height+1, height-1, height, height+1)
	for _, b := range p.blocks {
		heights = append(heights, b.Height)
	}
	for _, h := range heights {
		want, wantErr := p.block(h)
		if got, err := l.Block(h); err != wantErr || !same(got, want) {
			t.Errorf("%s: block %d is %#v, %d, want %#v, %d", name, h, got, err, want, wantErr)
		}
	}
}

// unmade are a nil ledger, and one that neither New nor From made.
func unmade() map[string]*ledger.Ledger {
	return map[string]*ledger.Ledger{"nil": nil, "unmade": {}}
}

// word and row put plainly what layer 1 puts.
func word(n int) []byte { return binary.BigEndian.AppendUint64(nil, uint64(n)) }

func row(x []byte) []byte {
	return append(binary.BigEndian.AppendUint32(nil, uint32(len(x))), x...)
}

// packed puts a snapshot together, of any height.
func packed(height int, head, state string) []byte {
	return slices.Concat(word(height), row([]byte(head)), row([]byte(state)))
}

// same holds two blocks against each other.
func same(a, b api.Block) bool {
	return a.Height == b.Height && a.Prev == b.Prev && slices.EqualFunc(a.Requests, b.Requests, sameEnvelope) && slices.Equal(a.Results, b.Results)
}

func sameEnvelope(a, b api.Envelope) bool { return a.Signer == b.Signer && bytes.Equal(a.Body, b.Body) }

// twin is a block that shares nothing with another one.
func twin(b api.Block) api.Block {
	b.Requests, b.Results = slices.Clone(b.Requests), slices.Clone(b.Results)
	for i, e := range b.Requests {
		b.Requests[i].Body = bytes.Clone(e.Body)
	}
	return b
}

// loose is a block behind whose lists' ends other things stand.
func loose(b api.Block) api.Block {
	b = twin(b)
	for i, e := range b.Requests {
		b.Requests[i].Body = append(bytes.Clone(e.Body), "behind"...)[:len(e.Body)]
	}
	b.Requests = append(b.Requests, signed(5, "behind"), signed(6, "behind"))[:len(b.Requests)]
	b.Results = append(b.Results, came(5, 5), came(6, 6))[:len(b.Results)]
	return b
}

// whole tells all that stands in a block, behind its lists' ends too.
func whole(b api.Block) string {
	s := fmt.Sprintf("%d %q %#v", b.Height, b.Prev, b.Results[:cap(b.Results)])
	for _, e := range b.Requests[:cap(b.Requests)] {
		s += fmt.Sprintf(" %d %q", e.Signer, e.Body[:cap(e.Body)])
	}
	return s
}

// spoil writes over all that a block's lists hold, and behind the ends of the bodies.
func spoil(b api.Block) {
	for i, e := range b.Requests {
		body := e.Body[:cap(e.Body)]
		for j := range body {
			body[j] = '!'
		}
		b.Requests[i] = signed(-7, "!")
	}
	for i := range b.Results {
		b.Results[i] = came(-7, -7)
	}
	_ = append(b.Requests, signed(-8, "!"))
	_ = append(b.Results, came(-8, -8))
}

// parts makes a digest by hand.
func parts(tag byte, p ...string) api.Digest {
	b := binary.BigEndian.AppendUint32([]byte{tag}, uint32(len(p)))
	for _, x := range p {
		b = append(b, row([]byte(x))...)
	}
	return api.Digest(b)
}

// header is a header's digest by hand, of a block of at most two requests.
func header(b api.Block) api.Digest {
	var leaves []string
	for i, e := range b.Requests {
		leaf := slices.Concat(word(e.Signer), row(e.Body), word(int(b.Results[i].Code)), word(b.Results[i].Stage))
		leaves = append(leaves, string(parts(2, string(leaf))))
	}
	root := map[int]func() string{
		0: func() string { return string(term.Of(4)) },
		1: func() string { return leaves[0] },
		2: func() string { return string(parts(3, leaves...)) },
	}[len(leaves)]()
	return parts(5, string(word(b.Height)), string(b.Prev), string(word(len(leaves))), root)
}
