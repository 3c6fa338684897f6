package term_test

import (
	"math/rand"
	"testing"

	"quaestor/api"
	"quaestor/term"
)

// lists are lists of parts that are easily taken for one another: the same bytes, cut otherwise, and bytes that look like a part.
func lists() [][][]byte {
	texts := []string{"", "a", "b", "ab", "\x00", "\x00\x00\x00\x00", "\x00\x00\x00\x01a", "\x00\x00\x00\x01\x00\x00\x00\x01a"}
	l := [][][]byte{nil}
	for _, a := range texts {
		l = append(l, rows(a))
		for _, b := range texts {
			l = append(l, rows(a, b))
			for _, c := range texts {
				l = append(l, rows(a, b, c))
			}
		}
	}
	return l
}

// TestOpenOfOf is of promise 2.3: Open of Of is the tag and the parts.
func TestOpenOfOf(t *testing.T) {
	for tag := range 256 {
		opens(t, term.Of(byte(tag)), byte(tag), nil)
		opens(t, term.Leaf(byte(tag), []byte("ab")), byte(tag), rows("ab"))
		opens(t, term.Pair(byte(tag), "ab", "c"), byte(tag), rows("ab", "c"))
	}
	for i, parts := range lists() {
		opens(t, term.Of(byte(i), parts...), byte(i), parts)
	}
}

// TestOpenOfOfMany is of promise 2.3: of many lists, long ones among them.
func TestOpenOfOfMany(t *testing.T) {
	dice := rand.New(rand.NewSource(1))
	for range 300 {
		parts := make([][]byte, dice.Intn(40))
		for i := range parts {
			parts[i] = make([]byte, dice.Intn(1<<dice.Intn(10)))
			dice.Read(parts[i])
		}
		tag := byte(dice.Intn(256))
		opens(t, term.Of(tag, parts...), tag, parts)
	}
}

// TestSameDigest is of promise 2.3: two digests are the same just if their tags and all their parts are.
func TestSameDigest(t *testing.T) {
	type from struct {
		tag   byte
		parts [][]byte
	}
	seen := map[api.Digest]from{}
	for _, tag := range []byte{0, 1, 97, 255} {
		for _, parts := range lists() {
			d := term.Of(tag, parts...)
			if was, ok := seen[d]; ok {
				t.Errorf("%d of %q, and %d of %q: %x", tag, parts, was.tag, was.parts, d)
			}
			seen[d] = from{tag, parts}
		}
	}
	for d, f := range seen {
		if again := term.Of(f.tag, f.parts...); again != d {
			t.Errorf("%d of %q: %x, and then %x", f.tag, f.parts, d, again)
		}
	}
}

// TestDigestWithinDigest is of promise 2.3: a digest of digests is none of those it is made of, in either order.
func TestDigestWithinDigest(t *testing.T) {
	a, b := term.Leaf(1, []byte("a")), term.Leaf(1, []byte("b"))
	all := []api.Digest{
		a, b, term.Leaf(1, []byte(a)), term.Leaf(2, []byte("a")), term.Of(1, []byte("a"), nil), term.Of(1),
		term.Pair(1, a, b), term.Pair(1, b, a), term.Pair(1, a, a), term.Pair(2, a, b), term.Leaf(1, []byte(a+b)),
		term.Pair(1, term.Pair(1, a, b), a), term.Pair(1, a, term.Pair(1, b, a)),
	}
	for i, x := range all {
		for j, y := range all {
			if i != j && x == y {
				t.Errorf("%d and %d: %x", i, j, x)
			}
		}
	}
}

// TestLongerThanParts is of promise 2.3.
func TestLongerThanParts(t *testing.T) {
	for _, parts := range lists() {
		d := term.Of(1, parts...)
		for _, p := range parts {
			if len(d) <= len(p) {
				t.Errorf("%x is not longer than %x", d, p)
			}
		}
	}
	d := term.Of(0)
	for range 20 {
		for _, next := range []api.Digest{term.Leaf(1, []byte(d)), term.Pair(1, d, ""), term.Pair(1, "", d)} {
			if len(next) <= len(d) {
				t.Errorf("%x is not longer than %x", next, d)
			}
		}
		d = term.Pair(1, d, d[:3])
	}
}

// FuzzOpen is of promises 2.2 and 2.3: whatever the bytes are, they are a digest just if that of their tag and parts has the same ones.
func FuzzOpen(f *testing.F) {
	for _, m := range mades() {
		if d := unhex(f, m.bytes); len(d) < 1000 {
			f.Add([]byte(d))
			f.Add([]byte(d[1:]))
		}
	}
	f.Fuzz(func(t *testing.T, b []byte) {
		d := api.Digest(b)
		tag, parts, ok := term.Open(d)
		if !ok {
			opensNot(t, d)
		} else if again := term.Of(tag, parts...); again != d {
			t.Errorf("%x is told to be %d of %q, which is %x", d, tag, parts, again)
		}
	})
}
