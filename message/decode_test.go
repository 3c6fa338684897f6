package message_test

import (
	"bytes"
	"math"
	"slices"
	"testing"

	"quaestor/api"
	"quaestor/message"
)

// read decodes bytes that are a message.
func read(t *testing.T, x []byte) api.Message {
	t.Helper()
	m, err := message.Decode(x)
	if err != api.OK {
		t.Fatalf("%x: %d", x[:min(len(x), 100)], err)
	}
	return m
}

// refused holds that bytes are no message, and that nothing is told of them.
func refused(t *testing.T, x []byte, want api.Errno) {
	t.Helper()
	if m, err := message.Decode(x); err != want || !same(m, api.Message{}) {
		t.Errorf("%x: %s, %d, want %d", x[:min(len(x), 100)], tell(m), err, want)
	}
}

// TestDecode is of promise 12.2: messages that are well are read, from their bytes as they are written and as they are put together.
func TestDecode(t *testing.T) {
	for _, x := range written() {
		if got := read(t, unhex(t, x.bytes)); !same(got, x.m) {
			t.Errorf("%s: %s", tell(x.m), tell(got))
		}
	}
	for _, m := range wells() {
		if got := read(t, messageBytes(m)); !same(got, m) {
			t.Errorf("%s: %s", tell(m), tell(got))
		}
	}
}

// TestDecodeIsNew is of promise 12.2 (R4, R5): bytes stay as they are, behind their end too; each message is another one's memory, and the same.
func TestDecodeIsNew(t *testing.T) {
	for _, m := range wells() {
		x := append(messageBytes(m), "behind"...)
		was := bytes.Clone(x)
		first, second := read(t, x[:len(x)-6]), read(t, x[:len(x)-6])
		if !same(first, m) || !bytes.Equal(x, was) {
			t.Errorf("%s: %s", tell(m), tell(first))
		}
		spoil(first)
		if !bytes.Equal(x, was) {
			t.Errorf("%s: the bytes go with it", tell(m))
		}
		fill(x)
		if !same(second, m) {
			t.Errorf("%s: %s goes with it", tell(m), tell(second))
		}
	}
}

// stretch puts more behind all rows of a message.
func stretch(m api.Message) {
	_ = append(m.Data, "behind, and more behind"...)
	lists := [][]api.Envelope{m.Batch, m.Pres}
	for _, c := range m.Certs {
		lists = append(lists, []api.Envelope{c.Pre}, c.Votes)
	}
	for _, l := range lists {
		for _, e := range l {
			_ = append(e.Body, "behind, and more behind"...)
		}
		_ = append(l, signed(-7, "behind"))
	}
}

// TestDecodeSharesNone is of promise 12.2 (R4): what is put behind one row of a message stands in no other one, nor in the bytes.
func TestDecodeSharesNone(t *testing.T) {
	for _, m := range wells() {
		x := messageBytes(m)
		got := read(t, x)
		stretch(got)
		if !same(got, m) || !bytes.Equal(x, messageBytes(m)) {
			t.Errorf("%s: %s", tell(m), tell(got))
		}
	}
}

// TestDecodeOfParts is of promise 12.2: bytes that end too early, and bytes behind the end.
func TestDecodeOfParts(t *testing.T) {
	all := []api.Message{made(api.MsgViewChange, func(f field) int { return f.most })}
	for _, k := range kinds() {
		all = append(all, small(k), made(k, func(f field) int { return f.least }))
	}
	for _, m := range all {
		x := messageBytes(m)
		for n := range x {
			refused(t, x[:n], api.ErrForm)
		}
		refused(t, append(bytes.Clone(x), 0), api.ErrForm)
		refused(t, append(bytes.Clone(x), x...), api.ErrForm)
	}
	refused(t, nil, api.ErrForm)
	refused(t, []byte{}, api.ErrForm)
}

// TestDecodeOfBeyond is of promise 12.2: the bytes that messages that are not well would have.
func TestDecodeOfBeyond(t *testing.T) {
	for _, m := range beyond() {
		refused(t, messageBytes(m), api.ErrForm)
	}
}

// TestDecodeOfOthers is of promise 12.2: fields that do not count have no bytes, whatever they are: neither nought nor something may stand there.
func TestDecodeOfOthers(t *testing.T) {
	for _, k := range kinds() {
		for _, name := range names() {
			if counts(k, name) {
				continue
			}
			for n := range 2 {
				m := small(k)
				set(&m, name, n)
				more := fieldBytes(m, name)
				refused(t, append(messageBytes(m), more...), api.ErrForm)
				refused(t, slices.Concat(word(k), more, messageBytes(m)[8:]), api.ErrForm)
			}
		}
	}
}

// TestDecodeOfKinds is of promise 12.2: kinds that there are not, with no fields, or those of another kind.
func TestDecodeOfKinds(t *testing.T) {
	for _, m := range unknown() {
		refused(t, word(m.Kind), api.ErrForm)
		for _, k := range kinds() {
			refused(t, append(word(m.Kind), messageBytes(small(k))[8:]...), api.ErrForm)
		}
	}
}

// TestDecodeOfOtherKinds is of promise 12.2: bytes count by their kind alone; where another kind has fields of the same form, it is that kind's.
func TestDecodeOfOtherKinds(t *testing.T) {
	forms := map[int]string{
		api.MsgRequest: "iib", api.MsgPrePrepare: "iibl", api.MsgPrepare: "iib", api.MsgCommit: "iib", api.MsgCheckpoint: "ib", api.MsgViewChange: "iilc",
		api.MsgNewView: "ill", api.MsgReply: "iiiii", api.MsgStatus: "i", api.MsgProof: "c", api.MsgSnapshot: "ibl",
	}
	for _, k := range kinds() {
		for _, other := range kinds() {
			x := append(word(other), messageBytes(small(k))[8:]...)
			if forms[k] != forms[other] {
				refused(t, x, api.ErrForm)
				continue
			}
			if m := read(t, x); m.Kind != other || !bytes.Equal(messageBytes(m), x) {
				t.Errorf("%d as %d: %s", k, other, tell(m))
			}
		}
	}
}

// TestDecodeOfWrongCounts is of promise 12.2: counts that say more, or less, than stands there, or than there may be.
func TestDecodeOfWrongCounts(t *testing.T) {
	one := i1 + "00000001 61"
	for _, s := range []string{
		i1 + i0 + i1 + "00000001",
		i1 + i0 + i1 + "00001001",
		i1 + i0 + i1 + "ffffffff",
		i1 + i0 + i1 + "00000001 6162",
		i1 + i0 + i1 + "00000000 61",
		i3 + i0 + i1 + "ffffffff",
		i3 + i0 + i1 + "80000000",
		i3 + i0 + i1 + "00000002 61",
		i2 + i0 + i1 + "00000000 00000001",
		i2 + i0 + i1 + "00000000 00000005",
		i2 + i0 + i1 + "00000000 ffffffff",
		i2 + i0 + i1 + "00000000 00000000" + one,
		i2 + i0 + i1 + "00000000 00000001" + one + one,
		i2 + i0 + i1 + "00000000 00000002" + one,
		i2 + i0 + i1 + "00000000 00000005" + one + one + one + one + one,
		i2 + i0 + i1 + "00000000 00000001" + i1 + "ffffffff 61",
		i2 + i0 + i1 + "00000000 00000001" + i1 + "00000000 61",
		i10 + "00000000",
		i10 + "00000001",
		i10 + "00000002" + one + "00000000" + one + "00000000",
		i10 + "00000001" + one + "00000001",
		i10 + "00000001" + one + "00000008" + one + one + one + one + one + one + one + one,
		i10 + "00000001" + one + "ffffffff",
		i10 + "ffffffff" + one + "00000000",
	} {
		refused(t, unhex(t, s), api.ErrForm)
	}
	m := read(t, unhex(t, i2+i0+i1+"00000000 00000004"+one+one+one+one))
	if len(m.Batch) != 4 {
		t.Errorf("four requests: %s", tell(m))
	}
}

// TestDecodeOfWideNumbers is of promise 12.2: numbers of 64 bits that are none of a message.
func TestDecodeOfWideNumbers(t *testing.T) {
	for _, n := range []string{minusOne, least, greatest, "0000010000000001", "0000010100000001", "0000000100000000"} {
		x := unhex(t, i9+n)
		if n == "0000000100000000" {
			if m := read(t, x); m.Seq != 1<<32 {
				t.Errorf("%s: %s", n, tell(m))
			}
			continue
		}
		refused(t, x, api.ErrForm)
	}
	for _, k := range []string{minusOne, "0000000100000009", "0000010000000009", "8000000000000009"} {
		refused(t, unhex(t, k+i0), api.ErrForm)
	}
	m := read(t, unhex(t, i8+i0+i0+i1+least+greatest))
	if m.Result != came(math.MinInt, math.MaxInt) {
		t.Errorf("a result: %s", tell(m))
	}
}

// TestDecodeOfLong is of promise 12.2: as many bytes as may be signed, and one more, be they a message or not.
func TestDecodeOfLong(t *testing.T) {
	m := api.Message{Kind: api.MsgSnapshot, Seq: 4}
	m.Data = make([]byte, api.MaxBody-len(messageBytes(m)))
	x := messageBytes(m)
	if len(x) != api.MaxBody {
		t.Fatalf("%d bytes", len(x))
	}
	if got := read(t, x); !same(got, m) {
		t.Errorf("%d bytes of data, want %d", len(got.Data), len(m.Data))
	}
	refused(t, append(x, 0), api.ErrLong)
	refused(t, x[:len(x)-1], api.ErrForm)

	m.Data = append(m.Data, 0)
	refused(t, messageBytes(m), api.ErrLong)
	refused(t, message.Encode(m), api.ErrLong)

	refused(t, make([]byte, api.MaxBody), api.ErrForm)
	refused(t, make([]byte, api.MaxBody+1), api.ErrLong)
	refused(t, make([]byte, 3*api.MaxBody), api.ErrLong)
}

// TestDecodeBoundsOneField is of promise 12.2: an operation's bytes have their own bound, though a message may be longer; a snapshot's have none.
func TestDecodeBoundsOneField(t *testing.T) {
	for _, n := range []int{api.MaxOp, api.MaxOp + 1} {
		m := api.Message{Kind: api.MsgRequest, Stamp: 1, Data: make([]byte, n)}
		if n > api.MaxOp {
			refused(t, messageBytes(m), api.ErrForm)
			m.Kind, m.Stamp, m.Seq = api.MsgSnapshot, 0, 1
		}
		if got := read(t, messageBytes(m)); !same(got, m) {
			t.Errorf("%d bytes: %s", n, tell(got))
		}
	}
}
