package message_test

import (
	"math"
	"testing"

	"quaestor/api"
	"quaestor/message"
)

// checked holds what Check tells of a message, and that Encode tells nothing of one that is not well.
func checked(t *testing.T, m api.Message, want api.Errno) {
	t.Helper()
	if got := message.Check(m); got != want {
		t.Errorf("%s: %d, want %d", tell(m), got, want)
	}
	if got := message.Encode(m); (len(got) > 0) != (want == api.OK) {
		t.Errorf("%s: %d bytes", tell(m), len(got))
	}
}

// TestCheck is of promise 12.1: messages that are well, to the ends of their bounds.
func TestCheck(t *testing.T) {
	for _, m := range wells() {
		checked(t, m, api.OK)
	}
	if len(kinds()) != 11 {
		t.Errorf("kinds %v", kinds())
	}
}

// TestCheckOfKinds is of promise 12.1: there is no other kind, whatever the fields are.
func TestCheckOfKinds(t *testing.T) {
	for _, m := range unknown() {
		checked(t, m, api.ErrMessage)
	}
	checked(t, api.Message{}, api.ErrMessage)
}

// TestCheckOfNumbers is of promise 12.1: a number alone decides, of messages that are well else.
func TestCheckOfNumbers(t *testing.T) {
	for _, k := range kinds() {
		for _, f := range rules()[k] {
			if number(&api.Message{}, f.name) == nil {
				continue
			}
			for _, n := range ints() {
				want := api.ErrMessage
				if n >= f.least && n <= f.most {
					want = api.OK
				}
				m := small(k)
				set(&m, f.name, n)
				checked(t, m, want)
			}
		}
	}
}

// TestCheckOfAmounts is of promise 12.1: how much there is of a row or a list alone decides.
func TestCheckOfAmounts(t *testing.T) {
	for _, k := range kinds() {
		for _, f := range rules()[k] {
			if number(&api.Message{}, f.name) != nil || f.name == "result" {
				continue
			}
			for _, n := range []int{0, 1, 2, 3, 4, 5, 6, 7, 8, 9, 10, 100, 4095, 4096, 4097, 1 << 16} {
				want := api.ErrMessage
				if n >= f.least && n <= f.most {
					want = api.OK
				}
				m := small(k)
				set(&m, f.name, n)
				checked(t, m, want)
			}
		}
	}
}

// TestCheckOfResults is of promise 12.1: a result's numbers may be any, of a reply; of others there must be none.
func TestCheckOfResults(t *testing.T) {
	for _, n := range ints() {
		for _, r := range []api.Result{came(api.Errno(n), 0), came(0, n), came(api.Errno(n), n)} {
			for _, k := range kinds() {
				m := small(k)
				m.Result = r
				want := api.ErrMessage
				if k == api.MsgReply || r == came(0, 0) {
					want = api.OK
				}
				checked(t, m, want)
			}
		}
	}
}

// TestCheckOfSigners is of promise 12.1: a signer is a number like others, wherever it stands.
func TestCheckOfSigners(t *testing.T) {
	for _, k := range kinds() {
		for i := range len(signers(ptr(small(k)))) {
			for _, n := range ints() {
				want := api.ErrMessage
				if n >= 0 && n <= top {
					want = api.OK
				}
				m := small(k)
				*signers(&m)[i] = n
				checked(t, m, want)
			}
		}
	}
}

// TestCheckOfVotes is of promise 12.1: how many votes a certificate may have, at each place.
func TestCheckOfVotes(t *testing.T) {
	for votes := range 12 {
		want := api.ErrMessage
		if votes <= 7 {
			want = api.OK
		}
		checked(t, voted(api.MsgProof, votes), want)
		for i := range api.Window {
			m := made(api.MsgViewChange, func(f field) int { return f.most })
			m.Certs[i].Votes = envelopes(votes)
			checked(t, m, want)
		}
	}
}

// TestCheckOfProofs is of promise 12.1: a proof has just one certificate.
func TestCheckOfProofs(t *testing.T) {
	for n := range 10 {
		want := api.ErrMessage
		if n == 1 {
			want = api.OK
		}
		checked(t, api.Message{Kind: api.MsgProof, Certs: certs(n)}, want)
	}
	checked(t, api.Message{Kind: api.MsgProof, Certs: make([]api.Cert, 1)}, api.OK)
}

// TestCheckOfOthers is of promise 12.1: fields that do not count must be zero.
func TestCheckOfOthers(t *testing.T) {
	all := others()
	if want := 2 * (11*10 - (3 + 4 + 3 + 3 + 2 + 4 + 3 + 4 + 1 + 1 + 3)); len(all) != want {
		t.Errorf("%d messages, want %d", len(all), want)
	}
	for _, m := range all {
		checked(t, m, api.ErrMessage)
	}
	for _, k := range kinds() {
		for _, name := range []string{"view", "seq", "client", "stamp"} {
			for _, n := range []int{math.MinInt, -1, top, math.MaxInt} {
				if m := small(k); !counts(k, name) {
					set(&m, name, n)
					checked(t, m, api.ErrMessage)
				}
			}
		}
	}
}

// TestCheckOfEmpty is of promise 12.1 (R3): lists without elements are none, be they nil or not.
func TestCheckOfEmpty(t *testing.T) {
	for _, k := range kinds() {
		m := made(k, func(f field) int { return f.least })
		want := message.Encode(m)
		for _, name := range names() {
			switch name {
			case "data":
				m.Data = append([]byte{}, m.Data...)
			case "batch", "pres":
				*list(&m, name) = append([]api.Envelope{}, *list(&m, name)...)
			case "certs":
				m.Certs = append([]api.Cert{}, m.Certs...)
			}
		}
		for i := range m.Certs {
			m.Certs[i].Votes = []api.Envelope{}
		}
		checked(t, m, api.OK)
		if got := message.Encode(m); string(got) != string(want) {
			t.Errorf("%s: %x, want %x", tell(m), got, want)
		}
	}
}

// TestCheckOfBeyond is of promise 12.1: one field that is not within its bounds, be the others as they are.
func TestCheckOfBeyond(t *testing.T) {
	for _, m := range beyond() {
		checked(t, m, api.ErrMessage)
	}
}

// TestCheckChangesNothing is of promise 12.1 (R4): a message that is asked of stays as it is.
func TestCheckChangesNothing(t *testing.T) {
	for _, m := range append(append(wells(), beyond()...), others()...) {
		l := loose(m)
		was := whole(l)
		if first, second := message.Check(l), message.Check(l); first != second || first != message.Check(m) || whole(l) != was {
			t.Errorf("%s: %d, %d", tell(m), first, second)
		}
	}
}
