package block_test

import (
	"bytes"
	"encoding/binary"
	"encoding/hex"
	"fmt"
	"math"
	"slices"
	"strings"
	"testing"

	"quaestor/api"
	"quaestor/term"
)

// lastHeight is the last height that a block may have.
const lastHeight = 1 << 40

// Some numbers as eight bytes, and a block's front.
const (
	i0       = "0000000000000000"
	i1       = "0000000000000001"
	i2       = "0000000000000002"
	i3       = "0000000000000003"
	i1000    = "00000000000003e8"
	minusOne = "ffffffffffffffff"
	greatest = "7fffffffffffffff"
	least    = "8000000000000000"
)

// unhex makes bytes of hexadecimal digits; blanks may stand between them.
func unhex(t testing.TB, s string) []byte {
	t.Helper()
	b, err := hex.DecodeString(strings.ReplaceAll(s, " ", ""))
	if err != nil {
		t.Fatalf("%q: %v", s, err)
	}
	return b
}

// ints are numbers that a height, a signer, a code or a stage may have, or none of them.
func ints() []int {
	return []int{math.MinInt, math.MinInt + 1, -1 << 40, -1 << 32, -2, -1, 0, 1, 2, 3, 4, 5, 1000, 1 << 31, 1 << 32, lastHeight - 1, lastHeight, lastHeight + 1, math.MaxInt - 1, math.MaxInt}
}

func signed(signer int, body string) api.Envelope {
	return api.Envelope{Signer: signer, Body: []byte(body)}
}

func came(code api.Errno, stage int) api.Result { return api.Result{Code: code, Stage: stage} }

// small is a block of one request.
func small() api.Block {
	return api.Block{Height: 2, Prev: "p", Requests: []api.Envelope{signed(1000, "ab")}, Results: []api.Result{came(api.ErrGuard, -1)}}
}

// numbered is a block of n requests, each another one; their lengths are not the same.
func numbered(n int) api.Block {
	b := api.Block{Height: 7, Prev: term.Of(6)}
	for i := range n {
		b.Requests = append(b.Requests, signed(1000+i, strings.Repeat("x", i)))
		b.Results = append(b.Results, came(api.Errno(i*10), i-1))
	}
	return b
}

// blocks are those that may be: of each count of requests, at the ends of the heights, with numbers that are hardly any.
func blocks() []api.Block {
	all := []api.Block{
		{Height: 1},
		{Height: lastHeight, Prev: "p"},
		{Height: 1, Prev: term.Of(6), Requests: []api.Envelope{{}}, Results: []api.Result{{}}},
		small(),
		{
			Height:   lastHeight,
			Prev:     api.Digest(strings.Repeat("p", 300)),
			Requests: []api.Envelope{signed(math.MinInt, ""), signed(math.MaxInt, "\x00"), signed(-1, strings.Repeat("b", 70000)), signed(0, "")},
			Results:  []api.Result{came(math.MaxInt, math.MinInt), came(math.MinInt, math.MaxInt), came(-1, -1), came(0, 0)},
		},
		{Height: 3, Requests: []api.Envelope{signed(1000, "a"), signed(1000, "a")}, Results: []api.Result{came(1, 2), came(1, 2)}},
	}
	for n := range api.MaxBatch + 1 {
		all = append(all, numbered(n))
	}
	return all
}

// uneven is numbered, of so many requests and so many results.
func uneven(requests, results int) api.Block {
	b := numbered(max(requests, results))
	b.Requests, b.Results = b.Requests[:requests], b.Results[:results]
	return b
}

// wrong are blocks that may not be, and why.
func wrong() map[api.Errno][]api.Block {
	all := map[api.Errno][]api.Block{}
	for _, h := range ints() {
		if h < 1 || h > lastHeight {
			b, none, many := small(), uneven(1, 0), numbered(5)
			b.Height, none.Height, many.Height = h, h, h
			all[api.ErrHeight] = append(all[api.ErrHeight], api.Block{Height: h}, b, none, many)
		}
	}
	for _, n := range [][2]int{{1, 0}, {0, 1}, {2, 1}, {1, 2}, {3, 4}, {4, 3}, {4, 5}, {5, 4}, {5, 5}, {6, 6}, {100, 100}, {0, 100}} {
		all[api.ErrBlock] = append(all[api.ErrBlock], uneven(n[0], n[1]))
	}
	return all
}

// word and row put plainly what layer 1 puts.
func word(n int) []byte { return binary.BigEndian.AppendUint64(nil, uint64(n)) }

func row(x []byte) []byte {
	return append(binary.BigEndian.AppendUint32(nil, uint32(len(x))), x...)
}

// leafBytes puts together a request's leaf.
func leafBytes(e api.Envelope, r api.Result) []byte {
	return slices.Concat(word(e.Signer), row(e.Body), word(int(r.Code)), word(r.Stage))
}

// blockBytes puts together a block, of which nothing is asked but that as many results as requests are there.
func blockBytes(b api.Block) []byte {
	x := slices.Concat(word(b.Height), row([]byte(b.Prev)), binary.BigEndian.AppendUint32(nil, uint32(len(b.Requests))))
	for i, e := range b.Requests {
		x = append(x, leafBytes(e, b.Results[i])...)
	}
	return x
}

// root puts a tree together of up to four leaves, or of five, by hand.
func root(leaves ...[]byte) api.Digest {
	var d []api.Digest
	for _, x := range leaves {
		d = append(d, term.Leaf(2, x))
	}
	switch len(d) {
	case 0:
		return term.Of(4)
	case 1:
		return d[0]
	case 2:
		return term.Pair(3, d[0], d[1])
	case 3:
		return term.Pair(3, term.Pair(3, d[0], d[1]), d[2])
	case 4:
		return term.Pair(3, term.Pair(3, d[0], d[1]), term.Pair(3, d[2], d[3]))
	default:
		return term.Pair(3, root(leaves[:4]...), d[4])
	}
}

// same holds two blocks against each other.
func same(a, b api.Block) bool {
	return a.Height == b.Height && a.Prev == b.Prev && slices.EqualFunc(a.Requests, b.Requests, sameEnvelope) && slices.Equal(a.Results, b.Results)
}

func sameEnvelope(a, b api.Envelope) bool { return a.Signer == b.Signer && bytes.Equal(a.Body, b.Body) }

// twin is a block that shares nothing with another one.
func twin(b api.Block) api.Block {
	b.Requests, b.Results = slices.Clone(b.Requests), slices.Clone(b.Results)
	for i, e := range b.Requests {
		b.Requests[i].Body = bytes.Clone(e.Body)
	}
	return b
}

// loose is a block behind whose lists' ends other things stand.
func loose(b api.Block) api.Block {
	b = twin(b)
	for i, e := range b.Requests {
		b.Requests[i].Body = append(bytes.Clone(e.Body), "behind"...)[:len(e.Body)]
	}
	b.Requests = append(b.Requests, signed(5, "behind"), signed(6, "behind"))[:len(b.Requests)]
	b.Results = append(b.Results, came(5, 5), came(6, 6))[:len(b.Results)]
	return b
}

// whole tells all that stands in a block, behind its lists' ends too.
func whole(b api.Block) string {
	s := fmt.Sprintf("%d %q %#v", b.Height, b.Prev, b.Results[:cap(b.Results)])
	for _, e := range b.Requests[:cap(b.Requests)] {
		s += fmt.Sprintf(" %d %q", e.Signer, e.Body[:cap(e.Body)])
	}
	return s
}

// spoil writes over all that a block's lists hold.
func spoil(b api.Block) {
	for i, e := range b.Requests {
		for j := range e.Body {
			e.Body[j] = '!'
		}
		b.Requests[i] = signed(-7, "!")
	}
	for i := range b.Results {
		b.Results[i] = came(-7, -7)
	}
}
