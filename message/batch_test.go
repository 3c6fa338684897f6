package message_test

import (
	"math"
	"slices"
	"testing"

	"quaestor/api"
	"quaestor/message"
	"quaestor/term"
)

// batch puts the digest of envelopes together.
func batch(l []api.Envelope) api.Digest {
	var parts [][]byte
	for _, e := range l {
		parts = append(parts, append(word(e.Signer), row(e.Body)...))
	}
	return term.Of(8, parts...)
}

// TestBatch is of promise 12.3, to the byte.
func TestBatch(t *testing.T) {
	for _, x := range []struct {
		l     []api.Envelope
		bytes string
	}{
		{nil, "08 00000000"},
		{[]api.Envelope{}, "08 00000000"},
		{[]api.Envelope{{}}, "08 00000001 0000000c" + i0 + "00000000"},
		{[]api.Envelope{signed(1000, "ab")}, "08 00000001 0000000e" + i1000 + "00000002 6162"},
		{[]api.Envelope{signed(1, "a"), signed(-1, "")}, "08 00000002 0000000d" + i1 + "00000001 61 0000000c" + minusOne + "00000000"},
		{[]api.Envelope{signed(math.MinInt, ""), signed(math.MaxInt, "\x00")}, "08 00000002 0000000c" + least + "00000000 0000000d" + greatest + "00000001 00"},
	} {
		if got, want := message.Batch(x.l), string(unhex(t, x.bytes)); string(got) != want {
			t.Errorf("%v: %x, want %x", x.l, got, want)
		}
	}
}

// TestBatchOfMany is of promise 12.3: of more envelopes than any message may have, of long bodies, and of any signers.
func TestBatchOfMany(t *testing.T) {
	var all []api.Envelope
	for _, n := range ints() {
		all = append(all, signed(n, "x"))
	}
	for _, l := range [][]api.Envelope{all, envelopes(4), envelopes(5), envelopes(7), envelopes(1000), {signed(1000, string(make([]byte, 1<<20))), signed(1000, "")}} {
		if message.Batch(l) != batch(l) {
			t.Errorf("%d envelopes: another digest", len(l))
		}
	}
}

// TestBatchOfOrder is of promise 12.3: the order counts, and so does one that stands twice.
func TestBatchOfOrder(t *testing.T) {
	a, b := signed(1, "a"), signed(2, "b")
	digests := map[api.Digest]bool{}
	for _, l := range [][]api.Envelope{{a, b}, {b, a}, {a, a, b}, {a, b, b}, {a}, {b}, {}} {
		digests[message.Batch(l)] = true
		if message.Batch(l) != batch(l) {
			t.Errorf("%v: another digest", l)
		}
	}
	if len(digests) != 7 {
		t.Errorf("%d digests", len(digests))
	}
}

// TestBatchChangesNothing is of promise 12.3 (R4, R5): envelopes stay as they are, and what stands behind them counts for nothing.
func TestBatchChangesNothing(t *testing.T) {
	for n := range 8 {
		l := looseList(envelopes(n))
		was := wholeList(l)
		first, second := message.Batch(l), message.Batch(slices.Clone(l))
		if first != batch(envelopes(n)) || second != first || wholeList(l) != was {
			t.Errorf("%d envelopes: %x, %x", n, first, second)
		}
		spoilList(l)
		if first != batch(envelopes(n)) || n > 0 && message.Batch(l) == first {
			t.Errorf("%d envelopes: the digest goes with them, or they count no more", n)
		}
	}
}
