package ledger_test

import (
	"bytes"
	"math"
	"strings"
	"testing"

	"quaestor/api"
	"quaestor/ledger"
	"quaestor/term"
)

// texts are heads and states.
func texts() []string {
	return []string{"", "\x00", "a", "ab", string(first), string(packed(1, "a", "b")), strings.Repeat("s", 70000)}
}

// TestPack is of promise 11.3, to the byte; nothing is asked of a height.
func TestPack(t *testing.T) {
	for _, x := range []struct {
		height      int
		head, state string
		bytes       string
	}{
		{0, "", "", i0 + "00000000 00000000"},
		{1, "ab", "", i1 + "00000002 6162 00000000"},
		{2, "", "c", i2 + "00000000 00000001 63"},
		{lastHeight, "\x00", "\xff\xff", "0000010000000000 00000001 00 00000002 ffff"},
		{lastHeight + 1, "a", "b", "0000010000000001 00000001 61 00000001 62"},
		{-1, "a", "b", minusOne + "00000001 61 00000001 62"},
		{math.MinInt, "a", "b", least + "00000001 61 00000001 62"},
		{math.MaxInt, "a", "b", greatest + "00000001 61 00000001 62"},
	} {
		if got, want := ledger.Pack(x.height, api.Digest(x.head), []byte(x.state)), unhex(t, x.bytes); !bytes.Equal(got, want) {
			t.Errorf("%d, %q, %q: %x, want %x", x.height, x.head, x.state, got, want)
		}
	}
	for _, head := range texts() {
		for _, state := range texts() {
			if got := ledger.Pack(5, api.Digest(head), []byte(state)); !bytes.Equal(got, packed(5, head, state)) {
				t.Errorf("%d and %d bytes: other bytes", len(head), len(state))
			}
		}
	}
	if got := ledger.Pack(0, "", nil); !bytes.Equal(got, packed(0, "", "")) {
		t.Errorf("of no state: %x", got)
	}
}

// TestPackIsNew is of promise 11.3 (R4, R5): a state stays as it is, behind its end too; each snapshot is another one's memory, and the same.
func TestPackIsNew(t *testing.T) {
	state := []byte("statebehind")
	one, other := ledger.Pack(3, "d", state[:5]), ledger.Pack(3, "d", state[:5])
	if string(state) != "statebehind" {
		t.Errorf("the state is %q", state)
	}
	state[0] = '!'
	for i := range one {
		one[i] = '!'
	}
	if want := packed(3, "d", "state"); !bytes.Equal(other, want) {
		t.Errorf("%x, want %x", other, want)
	}
}

// TestUnpack is of promise 11.3: what was packed is unpacked, at the ends of the heights too, and is new memory.
func TestUnpack(t *testing.T) {
	for _, h := range ints() {
		if h < 0 || h > lastHeight {
			continue
		}
		for _, head := range texts() {
			for _, state := range texts() {
				b := append(packed(h, head, state), "behind"...)
				was := bytes.Clone(b)
				b = b[:len(b)-6]
				height, d, s, err := ledger.Unpack(b)
				if height != h || string(d) != head || string(s) != state || err != api.OK {
					t.Fatalf("%d, %d and %d bytes: %d, %d and %d bytes, %d", h, len(head), len(state), height, len(d), len(s), err)
				}
				_ = append(s, "over"...)
				if !bytes.Equal(b[:cap(b)][:len(was)], was) {
					t.Fatalf("%d, %d and %d bytes: what was handed in is changed", h, len(head), len(state))
				}
				_, _, other, _ := ledger.Unpack(b)
				for i := range b {
					b[i] = '!'
				}
				for i := range s {
					s[i] = '?'
				}
				if string(other) != state || string(d) != head {
					t.Fatalf("%d, %d and %d bytes: the answer goes with what was handed in, or with another one", h, len(head), len(state))
				}
			}
		}
	}
}

// unpackable holds that bytes are no snapshot, and that nothing is told of them.
func unpackable(t *testing.T, b []byte) {
	t.Helper()
	if height, d, s, err := ledger.Unpack(b); height != 0 || d != "" || len(s) > 0 || err != api.ErrForm {
		t.Errorf("%x: %d, %q, %q, %d", b, height, d, s, err)
	}
}

// TestUnpackOfWrongHeights is of promise 11.3: heights that none may be, packed well.
func TestUnpackOfWrongHeights(t *testing.T) {
	for _, h := range ints() {
		if h < 0 || h > lastHeight {
			unpackable(t, packed(h, "d", "state"))
			unpackable(t, ledger.Pack(h, "d", []byte("state")))
		}
	}
}

// TestUnpackOfParts is of promise 11.3: bytes that end too early, and bytes behind the end.
func TestUnpackOfParts(t *testing.T) {
	for _, b := range [][]byte{packed(0, "", ""), packed(1, "d", ""), packed(2, "", "state"), packed(lastHeight, "head", "state")} {
		for n := range b {
			unpackable(t, b[:n])
		}
		unpackable(t, append(bytes.Clone(b), 0))
		unpackable(t, append(bytes.Clone(b), b...))
	}
	unpackable(t, nil)
	unpackable(t, []byte{})
}

// TestUnpackOfWrongCounts is of promise 11.3: counts that say more, or less, than stands there.
func TestUnpackOfWrongCounts(t *testing.T) {
	for _, s := range []string{
		i1 + "00000001 00000000",
		i1 + "00000000 00000001",
		i1 + "00000002 61 00000001 62",
		i1 + "00000000 61 00000001 62",
		i1 + "00000001 61 00000002 62",
		i1 + "00000001 61 00000000 62",
		i1 + "ffffffff 61 00000001 62",
		i1 + "80000000 61 00000001 62",
		i1 + "00000001 61 ffffffff 62",
		i1 + "00000001 61 80000000 62",
		i1 + "00000006 61 00000001 62",
	} {
		unpackable(t, unhex(t, s))
	}
	if h, d, s, err := ledger.Unpack(unhex(t, i1+"00000001 61 00000001 62")); h != 1 || d != "a" || string(s) != "b" || err != api.OK {
		t.Errorf("%d, %q, %q, %d", h, d, s, err)
	}
}

// TestSeal is of promise 11.3, to the byte: nothing is asked of the bytes.
func TestSeal(t *testing.T) {
	for _, s := range texts() {
		got := ledger.Seal([]byte(s))
		if want := parts(7, s); got != want || got != term.Leaf(7, []byte(s)) {
			t.Errorf("%d bytes: %d bytes, want %d", len(s), len(got), len(want))
		}
	}
	if got := ledger.Seal(nil); got != "\x07\x00\x00\x00\x01\x00\x00\x00\x00" {
		t.Errorf("of nothing: %q", got)
	}
}

// TestSealLeavesAll is of promise 11.3 (R4): bytes stay as they are, behind their end too, and the seal does not go with them.
func TestSealLeavesAll(t *testing.T) {
	b := []byte("snapshotbehind")
	seal := ledger.Seal(b[:8])
	if string(b) != "snapshotbehind" {
		t.Errorf("%q", b)
	}
	b[0] = '!'
	if seal != parts(7, "snapshot") {
		t.Errorf("%q", seal)
	}
}
