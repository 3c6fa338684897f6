package message_test

import (
	"bytes"
	"math"
	"testing"

	"quaestor/api"
	"quaestor/message"
)

// written are messages with their bytes.
func written() []struct {
	m     api.Message
	bytes string
} {
	a, b := signed(1, "a"), signed(1000, "")
	aBytes, bBytes := i1+"00000001 61", i1000+"00000000"
	return []struct {
		m     api.Message
		bytes string
	}{
		{api.Message{Kind: api.MsgRequest, Client: 1000, Stamp: 2, Data: []byte("ab")}, i1 + i1000 + i2 + "00000002 6162"},
		{api.Message{Kind: api.MsgRequest, Stamp: 1}, i1 + i0 + i1 + "00000000"},
		{api.Message{Kind: api.MsgPrePrepare, Seq: 1}, i2 + i0 + i1 + "00000000 00000000"},
		{api.Message{Kind: api.MsgPrePrepare, View: 3, Seq: 4, Digest: "d", Batch: []api.Envelope{a, b}}, i2 + i3 + i4 + "00000001 64 00000002" + aBytes + bBytes},
		{api.Message{Kind: api.MsgPrepare, View: 1, Seq: 2, Digest: "\x00"}, i3 + i1 + i2 + "00000001 00"},
		{api.Message{Kind: api.MsgCommit, View: 1, Seq: top}, i4 + i1 + itop + "00000000"},
		{api.Message{Kind: api.MsgCheckpoint, Seq: 8, Digest: "de"}, i5 + i8 + "00000002 6465"},
		{api.Message{Kind: api.MsgViewChange, View: 1}, i6 + i1 + i0 + "00000000 00000000"},
		{
			api.Message{Kind: api.MsgViewChange, View: 5, Seq: 4, Batch: []api.Envelope{a}, Certs: []api.Cert{{Pre: b}, {Pre: a, Votes: []api.Envelope{b, a}}}},
			i6 + i5 + i4 + "00000001" + aBytes + "00000002" + bBytes + "00000000" + aBytes + "00000002" + bBytes + aBytes,
		},
		{api.Message{Kind: api.MsgNewView, View: 1, Batch: []api.Envelope{a}, Pres: []api.Envelope{b, b}}, i7 + i1 + "00000001" + aBytes + "00000002" + bBytes + bBytes},
		{api.Message{Kind: api.MsgNewView, View: top}, i7 + itop + "00000000 00000000"},
		{api.Message{Kind: api.MsgReply, View: 1, Client: 1000, Stamp: 2, Result: came(3, -1)}, i8 + i1 + i1000 + i2 + i3 + minusOne},
		{api.Message{Kind: api.MsgReply, Stamp: 1, Result: came(math.MinInt, math.MaxInt)}, i8 + i0 + i0 + i1 + least + greatest},
		{api.Message{Kind: api.MsgStatus}, i9 + i0},
		{api.Message{Kind: api.MsgStatus, Seq: 7}, i9 + i7},
		{api.Message{Kind: api.MsgProof, Certs: []api.Cert{{Pre: a, Votes: []api.Envelope{b}}}}, i10 + "00000001" + aBytes + "00000001" + bBytes},
		{api.Message{Kind: api.MsgProof, Certs: make([]api.Cert, 1)}, i10 + "00000001" + i0 + "00000000 00000000"},
		{api.Message{Kind: api.MsgSnapshot, Seq: 4, Data: []byte("xyz"), Batch: []api.Envelope{a}}, i11 + i4 + "00000003 78797a 00000001" + aBytes},
		{api.Message{Kind: api.MsgSnapshot, Seq: 6}, i11 + i6 + "00000000 00000000"},
	}
}

// TestEncode is of promise 12.1, to the byte.
func TestEncode(t *testing.T) {
	seen := map[int]bool{}
	for _, x := range written() {
		seen[x.m.Kind] = true
		if got, want := message.Encode(x.m), unhex(t, x.bytes); !bytes.Equal(got, want) {
			t.Errorf("%s: %x, want %x", tell(x.m), got, want)
		}
	}
	if len(seen) != len(kinds()) {
		t.Errorf("kinds %v alone", seen)
	}
}

// TestEncodeOfAll is of promise 12.1: the fields that count, in their order, of all that is well.
func TestEncodeOfAll(t *testing.T) {
	for _, m := range wells() {
		if !bytes.Equal(message.Encode(m), messageBytes(m)) {
			t.Errorf("%s: other bytes", tell(m))
		}
	}
}

// TestEncodeOfLong is of promise 12.1: how long the bytes are bars nothing.
func TestEncodeOfLong(t *testing.T) {
	for _, n := range []int{api.MaxBody - 100, api.MaxBody, api.MaxBody + 1} {
		m := api.Message{Kind: api.MsgSnapshot, Seq: 4, Data: make([]byte, n)}
		if got := message.Encode(m); message.Check(m) != api.OK || !bytes.Equal(got, messageBytes(m)) {
			t.Errorf("%d bytes of a snapshot: %d", n, len(got))
		}
	}
}

// TestEncodeOfWrong is of promise 12.1: nothing, of a message that is not well.
func TestEncodeOfWrong(t *testing.T) {
	for _, all := range [][]api.Message{beyond(), others(), unknown()} {
		for _, m := range all {
			if got := message.Encode(m); len(got) > 0 {
				t.Errorf("%s: %x", tell(m), got)
			}
		}
	}
}

// TestEncodeIsNew is of promise 12.1 (R4, R5): a message stays as it is, and what stands behind its lists counts for nothing; each row of bytes is another one's memory, and the same.
func TestEncodeIsNew(t *testing.T) {
	for _, m := range wells() {
		l := loose(m)
		was := whole(l)
		first, second := message.Encode(l), message.Encode(l)
		if !bytes.Equal(first, messageBytes(m)) || whole(l) != was {
			t.Errorf("%s: other bytes, or it is changed", tell(m))
		}
		fill(first)
		if whole(l) != was {
			t.Errorf("%s: it goes with the bytes", tell(m))
		}
		spoil(l)
		if !bytes.Equal(second, messageBytes(m)) {
			t.Errorf("%s: the bytes go with it", tell(m))
		}
	}
}
