package cert_test

import (
	"fmt"
	"testing"

	"quaestor/api"
	"quaestor/cert"
)

// kinds are those of votes.
func kinds() []int { return []int{api.MsgPrepare, api.MsgCommit, api.MsgCheckpoint} }

// vote holds what Vote tells.
func (w world) vote(what string, e api.Envelope, kind int, want api.Message, wantErr api.Errno) {
	w.Helper()
	w.quiet(what, func() {
		got, err := cert.Vote(w.Authority, e, kind)
		w.hold(fmt.Sprintf("a vote of kind %d, %s", kind, what), got, err, want, wantErr)
	})
}

// TestVote is of promise 13.2: votes of each kind by each replica, in views and of numbers to the ends of what may be.
func TestVote(t *testing.T) {
	for f := range api.MaxF + 1 {
		w := newWorld(t, f)
		for _, kind := range kinds() {
			for _, view := range []int{0, 1, 2, 7, top} {
				for _, seq := range []int{1, 2, 3, 4, 1 << 32, top} {
					for _, d := range []api.Digest{"", "x", api.Digest(make([]byte, 5000))} {
						for _, s := range votes(kind, api.Message{View: view, Seq: seq, Digest: d}, upTo(w.N())...) {
							w.vote("that is right", w.envelope(s), kind, s.m, api.OK)
						}
					}
				}
			}
		}
	}
}

// TestVoteOfSigners is of promise 13.2: a client votes for nothing, and a stranger has signed nothing.
func TestVoteOfSigners(t *testing.T) {
	for f := range api.MaxF + 1 {
		w := newWorld(t, f)
		for _, kind := range kinds() {
			s := votes(kind, api.Message{View: 1, Seq: 4, Digest: "d"}, 0)[0]
			for _, signer := range append(ints(), 6, 7, 8, 999, 1001, 1002, 1003, 1007, 1008) {
				s.signer = signer
				switch {
				case signer >= 0 && signer < 3*f+1:
					w.vote("by a replica", w.envelope(s), kind, s.m, api.OK)
				case signer >= 1000 && signer < 1000+clients:
					w.vote("by a client", w.envelope(s), kind, api.Message{}, api.ErrSigner)
				default:
					w.vote("by a stranger", w.envelope(s), kind, api.Message{}, api.ErrSigner)
					w.vote("by a stranger, of a kind that may not be", w.envelope(s), 99, api.Message{}, api.ErrSigner)
				}
			}
		}
	}
}

// TestVoteOfKinds is of promise 13.2: a message of each kind, asked for as each kind: the three alone are votes, each of its own.
func TestVoteOfKinds(t *testing.T) {
	w := newWorld(t, 1)
	for _, m := range messages() {
		for _, kind := range append(ints(), upTo(14)...) {
			want := api.ErrMessage
			if kind == m.Kind && (kind == 3 || kind == 4 || kind == 5) {
				want = api.OK
			}
			for signer := range w.N() {
				w.vote(fmt.Sprintf("which is of %d", m.Kind), w.says(signer, m), kind, m, want)
			}
			if want == api.OK {
				want = api.ErrSigner
			}
			w.vote(fmt.Sprintf("which is of %d, by a client", m.Kind), w.says(1000, m), kind, m, want)
		}
	}
}

// TestVoteOfFaults is of promise 13.2: each fault, and of each two the one that is told first, whatever kind is asked for.
func TestVoteOfFaults(t *testing.T) {
	for _, kind := range kinds() {
		all := append(openFaults(kind), fault{"by a client", api.ErrSigner, func(w world, s *said, _ said) { s.signer = 1000 }})
		pairs(all, func(l ...fault) {
			w := newWorld(t, 1)
			s := with(w, votes(kind, api.Message{View: 1, Seq: 4, Digest: "d"}, 2)[0], nobodys(), l...)
			w.vote(whats(l), w.envelope(s), kind, api.Message{}, l[0].err)
			for _, other := range []int{0, -1, api.MsgRequest, 12} {
				want := api.ErrMessage // ahead of a client's ErrSigner, behind what the authority tells
				if s.forged {
					want = api.ErrSigned
				}
				if !w.Known(s.signer) {
					want = api.ErrSigner
				}
				w.vote(whats(l), w.envelope(s), other, api.Message{}, want)
			}
		})
	}
}

// TestVoteIsNew is of promise 13.2 (R4, R5): what is handed in stays as it is, and each answer is the same.
func TestVoteIsNew(t *testing.T) {
	w := newWorld(t, 1)
	for _, kind := range kinds() {
		s := votes(kind, api.Message{View: 1, Seq: 4, Digest: "digest"}, 2)[0]
		l := looseList([]api.Envelope{w.envelope(s)})
		was := whole(l)
		first, _ := cert.Vote(w.Authority, l[0], kind)
		second, _ := cert.Vote(w.Authority, l[0], kind)
		if !same(first, s.m) || !same(second, s.m) || whole(l) != was {
			t.Errorf("%s, %s", tell(first), tell(second))
		}
		spoil(l)
		if !same(first, s.m) {
			t.Errorf("%s: it goes with what was handed in", tell(first))
		}
	}
}
