package term_test

import (
	"bytes"
	"encoding/hex"
	"strings"
	"testing"

	"quaestor/api"
	"quaestor/term"
)

// unhex makes a digest of hexadecimal digits; blanks may stand between them.
func unhex(t testing.TB, s string) api.Digest {
	t.Helper()
	b, err := hex.DecodeString(strings.ReplaceAll(s, " ", ""))
	if err != nil {
		t.Fatalf("%q: %v", s, err)
	}
	return api.Digest(b)
}

// rows makes parts of texts.
func rows(texts ...string) [][]byte {
	var parts [][]byte
	for _, s := range texts {
		parts = append(parts, []byte(s))
	}
	return parts
}

// made is a digest's tag and parts, and its bytes in hexadecimal digits.
type made struct {
	tag   byte
	parts [][]byte
	bytes string
}

// mades are digests of no parts, of empty ones, of ordinary ones and of long ones.
func mades() []made {
	return []made{
		{7, nil, "07 00000000"},
		{0, nil, "00 00000000"},
		{255, nil, "ff 00000000"},
		{1, rows("a"), "01 00000001 00000001 61"},
		{0, rows("a", "bc"), "00 00000002 00000001 61 00000002 6263"},
		{255, rows("ab", "c"), "ff 00000002 00000002 6162 00000001 63"},
		{2, rows(""), "02 00000001 00000000"},
		{2, rows("", ""), "02 00000002 00000000 00000000"},
		{3, rows("", "a", ""), "03 00000003 00000000 00000001 61 00000000"},
		{4, rows("\x00"), "04 00000001 00000001 00"},
		{5, rows("\xff\xfe\x80", "\x00\x00\x00\x01"), "05 00000002 00000003 fffe80 00000004 00000001"},
		{6, rows("a", "a", "a", "a", "a"), "06 00000005" + strings.Repeat(" 00000001 61", 5)},
		{8, rows(strings.Repeat("x", 255)), "08 00000001 000000ff" + strings.Repeat("78", 255)},
		{8, rows(strings.Repeat("x", 256)), "08 00000001 00000100" + strings.Repeat("78", 256)},
		{9, rows(strings.Repeat("y", 70000), "z"), "09 00000002 00011170" + strings.Repeat("79", 70000) + "00000001 7a"},
		{10, make([][]byte, 256), "0a 00000100" + strings.Repeat("00000000", 256)},
		{11, make([][]byte, 70000), "0b 00011170" + strings.Repeat("00000000", 70000)},
		{12, rows("\x07\x00\x00\x00\x00"), "0c 00000001 00000005 0700000000"},
	}
}

// TestOf is of promise 2.1: the tag, how many parts there are, each part.
func TestOf(t *testing.T) {
	for i, m := range mades() {
		if got, want := term.Of(m.tag, m.parts...), unhex(t, m.bytes); got != want {
			t.Errorf("row %d: %x, want %x", i, short(got), short(want))
		}
	}
}

// short cuts what a test tells.
func short(d api.Digest) api.Digest {
	return d[:min(len(d), 64)]
}

// TestOfOneByOne is of promise 2.1: parts may be handed in one by one; none at all, and a list that is empty, are the same (R3), and so are a nil part and an empty one.
func TestOfOneByOne(t *testing.T) {
	a, b := []byte("a"), []byte("bc")
	if got, want := term.Of(9, a, b), unhex(t, "09 00000002 00000001 61 00000002 6263"); got != want {
		t.Errorf("%x, want %x", got, want)
	}
	for _, none := range [][][]byte{nil, {}} {
		if got, want := term.Of(9, none...), unhex(t, "09 00000000"); got != want || term.Of(9) != want {
			t.Errorf("%x and %x, want %x", got, term.Of(9), want)
		}
	}
	if got, want := term.Of(9, nil, []byte{}), unhex(t, "09 00000002 00000000 00000000"); got != want {
		t.Errorf("%x, want %x", got, want)
	}
}

// TestLeaf is of promise 2.1.
func TestLeaf(t *testing.T) {
	for _, x := range []struct {
		tag   byte
		b     []byte
		bytes string
	}{
		{1, []byte("a"), "01 00000001 00000001 61"},
		{0, nil, "00 00000001 00000000"},
		{0, []byte{}, "00 00000001 00000000"},
		{255, []byte("\x00\xff"), "ff 00000001 00000002 00ff"},
		{2, []byte(strings.Repeat("x", 300)), "02 00000001 0000012c" + strings.Repeat("78", 300)},
	} {
		got, want := term.Leaf(x.tag, x.b), unhex(t, x.bytes)
		if got != want || got != term.Of(x.tag, x.b) {
			t.Errorf("%d of %x: %x, want %x", x.tag, x.b, got, want)
		}
	}
}

// TestPair is of promise 2.1: of two digests, and of any other two.
func TestPair(t *testing.T) {
	for _, x := range []struct {
		tag   byte
		a, b  api.Digest
		bytes string
	}{
		{2, "a", "bc", "02 00000002 00000001 61 00000002 6263"},
		{2, "bc", "a", "02 00000002 00000002 6263 00000001 61"},
		{0, "", "", "00 00000002 00000000 00000000"},
		{255, "", "\x00", "ff 00000002 00000000 00000001 00"},
		{255, "\xff", "", "ff 00000002 00000001 ff 00000000"},
		{3, term.Of(7), term.Leaf(1, []byte("a")), "03 00000002 00000005 0700000000 0000000a 01000000010000000161"},
	} {
		got, want := term.Pair(x.tag, x.a, x.b), unhex(t, x.bytes)
		if got != want || got != term.Of(x.tag, []byte(x.a), []byte(x.b)) {
			t.Errorf("%d of %x and %x: %x, want %x", x.tag, x.a, x.b, got, want)
		}
	}
}

// TestPartsStay is of rule R4: neither the parts that are handed in are changed, nor what lies behind their ends, nor what lies behind the list's.
func TestPartsStay(t *testing.T) {
	whole := []byte("abcdefgh")
	list := [][]byte{whole[0:2], whole[2:2], whole[4:5], []byte("behind the end")}
	first := term.Of(1, list[:3]...)
	if term.Of(1, list[:3]...) != first || term.Leaf(1, whole[:3]) != term.Leaf(1, []byte("abc")) {
		t.Error("the second time the answer is another one")
	}
	if string(whole) != "abcdefgh" || len(list[0]) != 2 || len(list[1]) != 0 || len(list[2]) != 1 || string(list[3]) != "behind the end" {
		t.Errorf("%q, %q", whole, list)
	}
}

// TestDigestStays is of rule R4: a digest holds nothing of the parts that were handed in, so that it stays when they change.
func TestDigestStays(t *testing.T) {
	part := []byte("abc")
	of, leaf := term.Of(1, part, part), term.Leaf(1, part)
	ofBytes, leafBytes := bytes.Clone([]byte(of)), bytes.Clone([]byte(leaf))
	copy(part, "xyz")
	if string(of) != string(ofBytes) || string(leaf) != string(leafBytes) {
		t.Errorf("%x, %x", of, leaf)
	}
}
