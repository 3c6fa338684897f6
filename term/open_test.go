package term_test

import (
	"bytes"
	"slices"
	"strings"
	"testing"

	"quaestor/api"
	"quaestor/term"
)

// sameParts: nil and empty are the same (R3).
func sameParts(a, b [][]byte) bool {
	return slices.EqualFunc(a, b, bytes.Equal)
}

// opens fails if d isn't of that tag and those parts.
func opens(t testing.TB, d api.Digest, tag byte, parts [][]byte) {
	t.Helper()
	gotTag, gotParts, ok := term.Open(d)
	if !ok || gotTag != tag || !sameParts(gotParts, parts) {
		t.Errorf("%x: %d, %d parts, %t; want %d, %d parts", short(d), gotTag, len(gotParts), ok, tag, len(parts))
	}
}

// opensNot fails if d is a digest, or if anything stands beside the false (R2).
func opensNot(t testing.TB, d api.Digest) {
	t.Helper()
	if tag, parts, ok := term.Open(d); ok || tag != 0 || len(parts) != 0 {
		t.Errorf("%x: %d, %d parts, %t", short(d), tag, len(parts), ok)
	}
}

// TestOpen is of promise 2.2: the tag, the parts, and true.
func TestOpen(t *testing.T) {
	for _, m := range mades() {
		opens(t, unhex(t, m.bytes), m.tag, m.parts)
	}
}

// TestOpenNone is of promise 2.2: what is no digest.
func TestOpenNone(t *testing.T) {
	for name, b := range map[string]string{
		"nothing":                                   "",
		"a tag alone":                               "07",
		"the example":                               "78",
		"a count that ends too early":               "07 000000",
		"no parts, and a byte":                      "07 00000000 00",
		"no parts, and a part":                      "07 00000000 00000001 61",
		"a part too few":                            "07 00000001",
		"two parts too few":                         "07 00000003 00000001 61",
		"a part's number that ends too early":       "07 00000001 000000",
		"a part that ends too early":                "07 00000001 00000002 61",
		"an empty part, and a byte":                 "07 00000001 00000000 00",
		"a part, and a byte":                        "07 00000001 00000001 61 62",
		"a part, and a part more":                   "07 00000001 00000001 61 00000000",
		"a count that is too great":                 "07 00000003 00000000 00000000",
		"a count that no bytes stand behind":        "07 ffffffff",
		"a count that cannot stand there":           "07 ffffffff 00000000",
		"a count of one part, in the wrong order":   "07 01000000 00000000",
		"a count with its highest bit":              "07 80000000",
		"a count of as many parts as bytes":         "07 00000008 00000000 00000000",
		"a part's number that cannot stand there":   "07 00000001 ffffffff 61",
		"a part's number with its highest bit":      "07 00000001 80000000",
		"the second part's number goes too far":     "07 00000002 00000001 61 00000001",
		"the first part's number covers the second": "07 00000002 00000005 00000000 61",
	} {
		t.Run(name, func(t *testing.T) { opensNot(t, unhex(t, b)) })
	}
}

// TestOpenManyParts is of promise 2.2 and rule R1: a count that cannot stand there ends at once, however many bytes stand behind it.
func TestOpenManyParts(t *testing.T) {
	zeros := api.Digest(strings.Repeat("\x00", 400000))
	opens(t, "\x01\x00\x01\x86\xa0"+zeros, 1, make([][]byte, 100000))
	opensNot(t, "\x01\x00\x01\x86\xa1"+zeros)
	opensNot(t, "\x01\x00\x01\x86\x9f"+zeros)
	opensNot(t, "\x01\x00\x06\x1a\x80"+zeros)
	opensNot(t, "\x01\xff\xff\xff\xff"+zeros)
}

// TestOpenCut is of promise 2.2: of a digest, nothing that ends earlier or goes on is one.
func TestOpenCut(t *testing.T) {
	for _, m := range mades() {
		d := unhex(t, m.bytes)
		for cut := range min(len(d), 300) {
			opensNot(t, d[:cut])
		}
		opensNot(t, d[:len(d)-1])
		for _, more := range []api.Digest{"\x00", "x", "\x00\x00\x00\x00", "\x00\x00\x00\x01x"} {
			opensNot(t, d+more)
		}
	}
}

// TestOpenIsNewMemory is of rule R4: no part shares memory with another one, of this answer or of the next, nor with the digest; not even behind its end.
func TestOpenIsNewMemory(t *testing.T) {
	texts := []string{"abc", "def", "", "ghi"}
	d := term.Of(1, rows(texts...)...)
	for i := range texts {
		_, ahead, _ := term.Open(d)
		_, parts, _ := term.Open(d)
		whole := parts[i][:cap(parts[i])]
		for k := range whole {
			whole[k] = 'z'
		}
		for j, want := range texts {
			if j != i && string(parts[j]) != want {
				t.Errorf("part %d changed part %d: %q", i, j, parts[j])
			}
		}
		if !sameParts(ahead, rows(texts...)) {
			t.Errorf("part %d changed an answer that was given ahead: %q", i, ahead)
		}
		opens(t, d, 1, rows(texts...))
	}
}
