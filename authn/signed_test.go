package authn_test

import (
	"bytes"
	"strings"
	"testing"

	"quaestor/api"
	"quaestor/authn"
)

// signs fails if the signer can't sign, or if the envelope is another one.
func signs(t *testing.T, a *authn.Authority, signer int, body []byte) api.Envelope {
	t.Helper()
	e, err := a.Sign(signer, body)
	if err != api.OK || e.Signer != signer || !bytes.Equal(e.Body, body) {
		t.Fatalf("%d: error %d, signer %d, %d bytes, want %d bytes", signer, err, e.Signer, len(e.Body), len(body))
	}
	return e
}

// signsNot fails if it signs, if the error is another one, if anything stands beside it or if anything has changed (R2).
func signsNot(t *testing.T, a *authn.Authority, signer int, body []byte, want api.Errno) {
	t.Helper()
	ahead := a.Signed()
	e, err := a.Sign(signer, body)
	if err != want || e.Signer != 0 || len(e.Body) != 0 {
		t.Errorf("%d: error %d, signer %d, %d bytes, want error %d", signer, err, e.Signer, len(e.Body), want)
	}
	signed(t, a, ahead)
	if a.Check(api.Envelope{Signer: signer, Body: body}) == api.OK {
		t.Errorf("%d is told to have signed", signer)
	}
}

// signed fails if there are more pairs or less.
func signed(t *testing.T, a *authn.Authority, want int) {
	t.Helper()
	if got := a.Signed(); got != want {
		t.Errorf("%d are signed, want %d", got, want)
	}
}

// checks fails if Check's error is another one.
func checks(t *testing.T, a *authn.Authority, signer int, body string, want api.Errno) {
	t.Helper()
	if got := a.Check(api.Envelope{Signer: signer, Body: []byte(body)}); got != want {
		t.Errorf("%d of %.40q: error %d, want %d", signer, body, got, want)
	}
}

// TestSign is of promise 3.2: each replica and each client signs, each bytes.
func TestSign(t *testing.T) {
	a := authn.New(1, 2)
	n := 0
	for _, signer := range []int{0, 1, 2, 3, 1000, 1001} {
		for _, body := range []string{"", "x", "xy", "\x00", "\xff\xfe", "0x", strings.Repeat("long", 100000)} {
			checks(t, a, signer, body, api.ErrSigned)
			e := signs(t, a, signer, []byte(body))
			n++
			signed(t, a, n)
			checks(t, a, signer, body, api.OK)
			if a.Check(e) != api.OK {
				t.Errorf("the envelope of %d is not right", signer)
			}
		}
	}
}

// TestSignNobody is of promise 3.2: who isn't known can't sign, whatever the bytes are, long ones among them.
func TestSignNobody(t *testing.T) {
	a := authn.New(1, 2)
	signs(t, a, 0, []byte("x"))
	long := make([]byte, api.MaxBody+1)
	for _, signer := range append(strangers(), 4, 6, 1002, 1007) {
		signsNot(t, a, signer, []byte("x"), api.ErrSigner)
		signsNot(t, a, signer, nil, api.ErrSigner)
		signsNot(t, a, signer, long, api.ErrSigner)
		checks(t, a, signer, "x", api.ErrSigner)
		checks(t, a, signer, "", api.ErrSigner)
	}
}

// TestSignLong is of promise 3.2: MaxBody bytes may be signed, and no more.
func TestSignLong(t *testing.T) {
	a := authn.New(1, 2)
	body := bytes.Repeat([]byte{'b'}, api.MaxBody+1)
	signsNot(t, a, 1, body, api.ErrLong)
	signsNot(t, a, 1000, body, api.ErrLong)
	if got := a.Check(api.Envelope{Signer: 1, Body: body}); got != api.ErrSigned {
		t.Errorf("error %d of what is too long", got)
	}
	e := signs(t, a, 1, body[:api.MaxBody])
	signed(t, a, 1)
	if a.Check(e) != api.OK {
		t.Error("what was signed is not right")
	}
	e.Body = e.Body[:api.MaxBody-1]
	if a.Check(e) != api.ErrSigned {
		t.Error("a byte less is right, too")
	}
}

// TestSignTwice is of promise 3.2: a pair stands once, and its envelope is told each time; nil bytes and none are the same (R3).
func TestSignTwice(t *testing.T) {
	a := authn.New(1, 2)
	for range 3 {
		signs(t, a, 1000, []byte("ask"))
		signed(t, a, 1)
	}
	for range 2 {
		signs(t, a, 0, []byte("ask"))
		signed(t, a, 2)
	}
	signs(t, a, 1000, nil)
	signs(t, a, 1000, []byte{})
	signed(t, a, 3)
	signs(t, a, 1000, []byte("ask"))
	signed(t, a, 3)
	checks(t, a, 1000, "", api.OK)
	if a.Check(api.Envelope{Signer: 1000}) != api.OK {
		t.Error("nil bytes are others than none")
	}
}

// TestCheckOther is of promise 3.2: neither another signer nor other bytes are right, nor another authority.
func TestCheckOther(t *testing.T) {
	a, b := authn.New(1, 2), authn.New(1, 2)
	e := signs(t, a, 0, []byte("abc"))
	for _, signer := range []int{1, 2, 3, 1000, 1001} {
		checks(t, a, signer, "abc", api.ErrSigned)
	}
	for _, body := range []string{"", "ab", "abcd", "abC", "bca", "abc\x00", "\x00abc", "0abc", "abcabc"} {
		checks(t, a, 0, body, api.ErrSigned)
	}
	if b.Check(e) != api.ErrSigned || b.Signed() != 0 || a.Check(e) != api.OK {
		t.Error("another authority knows of it")
	}
}

// TestCheckAsksAlone is of promise 3.2: what is checked is not signed by that.
func TestCheckAsksAlone(t *testing.T) {
	a := authn.New(1, 2)
	signs(t, a, 2, []byte("x"))
	for range 3 {
		checks(t, a, 2, "x", api.OK)
		checks(t, a, 1, "x", api.ErrSigned)
		checks(t, a, 4, "x", api.ErrSigner)
		signed(t, a, 1)
	}
}

// TestSignedStays is of rule R4: what was signed stays when the bytes that were handed in change, or those that were handed out.
func TestSignedStays(t *testing.T) {
	a := authn.New(1, 2)
	whole := []byte("abc, and behind")
	body := whole[:3]
	first := signs(t, a, 0, body)
	second := signs(t, a, 0, body)
	if string(whole) != "abc, and behind" {
		t.Errorf("%q", whole)
	}
	copy(first.Body[:cap(first.Body)], "xyzxyzxyzxyzxyzxyz")
	if string(second.Body) != "abc" || string(whole) != "abc, and behind" {
		t.Errorf("%q, %q", second.Body, whole)
	}
	copy(body, "uvw")
	if string(second.Body) != "abc" || string(first.Body) != "xyz" {
		t.Errorf("%q, %q", second.Body, first.Body)
	}
	checks(t, a, 0, "abc", api.OK)
	checks(t, a, 0, "xyz", api.ErrSigned)
	checks(t, a, 0, "uvw", api.ErrSigned)
	signed(t, a, 1)
}

// TestCheckLeaves is of rule R4: what is checked is not changed and not kept.
func TestCheckLeaves(t *testing.T) {
	a := authn.New(1, 2)
	signs(t, a, 0, []byte("abc"))
	whole := []byte("abcdef")
	e := api.Envelope{Signer: 0, Body: whole[:3]}
	if a.Check(e) != api.OK || string(whole) != "abcdef" {
		t.Errorf("%q", whole)
	}
	whole[0] = 'x'
	if a.Check(e) != api.ErrSigned {
		t.Error("the bytes are others now")
	}
	checks(t, a, 0, "abc", api.OK)
}

// TestNobodySigns is of the chapter's last words and rule R1: nobody signs where nobody is known.
func TestNobodySigns(t *testing.T) {
	for name, a := range nobodies() {
		t.Run(name, func(t *testing.T) {
			for _, signer := range append(strangers(), 0, 1, 1000) {
				signsNot(t, a, signer, []byte("x"), api.ErrSigner)
				signsNot(t, a, signer, make([]byte, api.MaxBody+1), api.ErrSigner)
				checks(t, a, signer, "x", api.ErrSigner)
			}
			signed(t, a, 0)
		})
	}
}
