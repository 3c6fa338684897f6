package slots_test

import (
	"fmt"
	"testing"

	"quaestor/api"
	"quaestor/message"
)

// TestPre is of promise 14.2: a pre-prepare of the view for each number within, of each size of batch.
func TestPre(t *testing.T) {
	for f := range api.MaxF + 1 {
		for _, view := range []int{0, 1, 6, 1 << 32} {
			for _, low := range []int{0, 4, 1 << 32} {
				l := newLog(t, f)
				if view > 0 {
					l.sets("view", view, api.OK)
				}
				l.lifts("low", low, api.OK)
				for seq := max(low-2, 1); seq <= low+room+3; seq++ {
					want := api.ErrSeq
					if seq > low && seq <= low+room {
						want = api.OK
					}
					l.takesPre(fmt.Sprintf("low %d, number %d", low, seq), l.pre(view, seq, seq%5), want)
				}
				l.takesPre("far beyond", l.pre(view, top, 0), api.ErrSeq)
				if l.s.Size() != room || l.s.Last() != low+room {
					t.Errorf("size %d, last %d", l.s.Size(), l.s.Last())
				}
			}
		}
	}
}

// TestPreOfViews is of promise 14.2: of another view is another one, below and above, be it by the same primary.
func TestPreOfViews(t *testing.T) {
	for v := range 9 {
		l := newLog(t, 1)
		if v > 0 {
			l.sets("view", v, api.OK)
		}
		for other := range 14 {
			want := api.ErrView
			if other == v {
				want = api.OK
			}
			l.takesPre(fmt.Sprintf("of %d in %d", other, v), l.pre(other, 3, 1), want)
		}
		l.takesPre("of the last view", l.pre(top, 3, 1), api.ErrView)
	}
}

// TestPreTwice is of promise 14.2: a second one for a number is there already if its digest is the same, else told twice; the first one stays, until it goes.
func TestPreTwice(t *testing.T) {
	l := newLog(t, 1)
	for seq := 1; seq <= room; seq++ {
		first := seq % 5
		l.takesPre("the first one", l.pre(0, seq, first), api.OK)
		for n := range 5 {
			want := api.ErrTwice
			if n == first {
				want = api.ErrExists
			}
			l.takesPre(fmt.Sprintf("number %d, %d requests", seq, n), l.pre(0, seq, n), want)
		}
	}
	l.sets("view", 1, api.OK)
	l.takesPre("another one in another view", l.pre(1, 1, 3), api.OK)
	l.takesPre("and one more", l.pre(1, 1, 1), api.ErrTwice)
}

// fault is an envelope that is none of the kind, and what cert tells of it.
type fault struct {
	what string
	e    api.Envelope
	err  api.Errno
}

// openFaults are those of any envelope: of a body that is right by a signer, and of one for which it is not.
func (l *log) openFaults(signer int, body []byte) []fault {
	l.Helper()
	other := append(body[:len(body):len(body)], 0)
	all := []fault{
		{"no message", l.signs(signer, other), api.ErrMessage},
		{"no bytes", l.signs(signer, nil), api.ErrMessage},
		{"signed by another one", api.Envelope{Signer: (signer + 1) % l.N(), Body: other}, api.ErrSigned},
		{"signed by nobody", api.Envelope{Signer: signer, Body: append(other, 0)}, api.ErrSigned},
	}
	for _, s := range []int{-1, l.N(), 999, 1002} {
		all = append(all, fault{fmt.Sprintf("by %d", s), api.Envelope{Signer: s, Body: body}, api.ErrSigner})
	}
	for _, m := range others() {
		all = append(all, fault{fmt.Sprintf("of kind %d", m.Kind), l.says(signer, m), api.ErrMessage})
	}
	return all
}

// others are messages of the kinds that slots take nothing of.
func others() []api.Message {
	return []api.Message{
		{Kind: api.MsgRequest, Client: 1000, Stamp: 1},
		{Kind: api.MsgCheckpoint, Seq: 4, Digest: "d"},
		{Kind: api.MsgViewChange, View: 1},
		{Kind: api.MsgNewView, View: 1},
		{Kind: api.MsgReply, Client: 1000, Stamp: 1},
		{Kind: api.MsgStatus},
		{Kind: api.MsgProof, Certs: make([]api.Cert, 1)},
		{Kind: api.MsgSnapshot, Seq: 4},
	}
}

// preFaults are pre-prepares for a view and number that cert refuses.
func (l *log) preFaults(view, seq int) []fault {
	l.Helper()
	primary := view % l.N()
	right := proposal(view, seq, l.batch(1))
	all := append(l.openFaults(primary, encode(l, right)),
		fault{"a prepare", l.vote(primary, api.MsgPrepare, view, seq, 1), api.ErrMessage},
		fault{"a commit", l.vote(primary, api.MsgCommit, view, seq, 1), api.ErrMessage},
		fault{"by a client", l.says(1000, right), api.ErrPrimary},
		fault{"by another one", l.says((primary+1)%l.N(), right), api.ErrPrimary},
	)
	other := right
	other.Digest += "x"
	unsigned := append(l.batch(1), api.Envelope{Signer: 1000, Body: []byte("never signed")})
	return append(all,
		fault{"with another digest", l.says(primary, other), api.ErrDigest},
		fault{"with what nobody signed", l.says(primary, proposal(view, seq, unsigned)), api.ErrSigned},
		fault{"with a vote", l.says(primary, proposal(view, seq, []api.Envelope{l.vote(1, api.MsgPrepare, view, seq, 1)})), api.ErrMessage},
	)
}

// TestPreFaults is of promise 14.2: what cert refuses has its error, ahead of another view, a number that is not within, and one that is there.
func TestPreFaults(t *testing.T) {
	l := newLog(t, 1)
	l.sets("view", 2, api.OK)
	l.lifts("low", 4, api.OK)
	l.takesPre("there", l.pre(2, 6, 1), api.OK)
	for _, view := range []int{0, 2, 3, 6} {
		for _, seq := range []int{1, 4, 5, 6, 12, 13, top} {
			for _, x := range l.preFaults(view, seq) {
				l.takesPre(fmt.Sprintf("%s, view %d, number %d", x.what, view, seq), x.e, x.err)
			}
		}
	}
}

// TestPreOrder is of promise 14.2: another view is told ahead of a number that is not within.
func TestPreOrder(t *testing.T) {
	l := newLog(t, 1)
	l.sets("view", 2, api.OK)
	l.lifts("low", 4, api.OK)
	l.takesPre("there", l.pre(2, 6, 1), api.OK)
	for _, view := range []int{1, 3, 6} {
		for _, seq := range []int{1, 4, 6, 13, top} {
			l.takesPre("of another view", l.pre(view, seq, 1), api.ErrView)
		}
	}
	for _, seq := range []int{1, 4, 13, top} {
		l.takesPre("not within", l.pre(2, seq, 1), api.ErrSeq)
	}
}

// TestVote is of promise 14.2: votes of both kinds by each replica for each number within, be there a pre-prepare or not.
func TestVote(t *testing.T) {
	for f := range api.MaxF + 1 {
		for _, low := range []int{0, 4, 1 << 32} {
			l := newLog(t, f)
			l.sets("view", 3, api.OK)
			l.lifts("low", low, api.OK)
			for signer := range l.N() {
				for _, kind := range voteKinds() {
					for seq := max(low-1, 1); seq <= low+room+2; seq++ {
						want := api.ErrSeq
						if seq > low && seq <= low+room {
							want = api.OK
						}
						l.takesVote(fmt.Sprintf("low %d, number %d", low, seq), l.vote(signer, kind, 3+signer%3, seq, 1), want)
					}
					l.takesVote("far beyond", l.vote(signer, kind, 3, top, 1), api.ErrSeq)
				}
			}
			if want := room * 2 * l.N(); l.s.Size() != want {
				t.Errorf("%d votes are there, want %d", l.s.Size(), want)
			}
		}
	}
}

// TestVoteOfViews is of promise 14.2: of a view below is too late; of the view, or of any above it, is not.
func TestVoteOfViews(t *testing.T) {
	for _, kind := range voteKinds() {
		for _, v := range []int{1, 2, 5, 9} {
			for _, of := range []int{0, 1, 2, 4, 5, 6, 8, 9, 10, top} {
				l := newLog(t, 1)
				l.sets("view", v, api.OK)
				want := api.OK
				if of < v {
					want = api.ErrView
				}
				l.takesVote(fmt.Sprintf("of %d in %d", of, v), l.vote(2, kind, of, 1, 1), want)
			}
		}
	}
}

// TestVoteTwice is of promise 14.2: by a signer for a number a second vote of its kind stands in the first one's place if its view is greater; else it is told twice, be it the same, or for another digest.
func TestVoteTwice(t *testing.T) {
	for _, kind := range voteKinds() {
		for first := range 5 {
			for second := range 5 {
				for batch := range 3 {
					l := newLog(t, 1)
					l.takesVote("the first one", l.vote(2, kind, first, 3, 1), api.OK)
					want := api.ErrTwice
					if second > first {
						want = api.OK
					}
					l.takesVote(fmt.Sprintf("of %d behind %d", second, first), l.vote(2, kind, second, 3, batch), want)
					l.takesVote("by another one", l.vote(1, kind, first, 3, 1), api.OK)
					l.takesVote("for another number", l.vote(2, kind, first, 4, 1), api.OK)
					l.takesVote("of the other kind", l.vote(2, api.MsgPrepare+api.MsgCommit-kind, first, 3, 1), api.OK)
					if l.s.Size() != 4 {
						t.Errorf("%d votes are there", l.s.Size())
					}
				}
			}
		}
	}
}

// TestVoteAgain is of promises 14.1 and 14.2: behind a view that lets votes go there is room for them again.
func TestVoteAgain(t *testing.T) {
	l := newLog(t, 1)
	for _, kind := range voteKinds() {
		l.takesVote("in view 0", l.vote(1, kind, 0, 1, 1), api.OK)
		l.takesVote("of view 3", l.vote(2, kind, 3, 1, 1), api.OK)
	}
	l.sets("view", 2, api.OK)
	for _, kind := range voteKinds() {
		l.takesVote("in view 2", l.vote(1, kind, 2, 1, 2), api.OK)
		l.takesVote("behind view 3", l.vote(2, kind, 2, 1, 2), api.ErrTwice)
		l.takesVote("of view 3, again", l.vote(2, kind, 3, 1, 2), api.ErrTwice)
		l.takesVote("of view 4", l.vote(2, kind, 4, 1, 2), api.OK)
	}
}

// voteFaults are votes of a kind for a view and number that cert refuses as votes of either kind.
func (l *log) voteFaults(kind, view, seq int) []fault {
	l.Helper()
	m := api.Message{Kind: kind, View: view, Seq: seq, Digest: message.Batch(nil)}
	return append(l.openFaults(2, encode(l, m)),
		fault{"a pre-prepare", l.pre(view, seq, 1), api.ErrMessage},
		fault{"by a client", l.says(1001, m), api.ErrSigner},
		fault{"another kind by a client", l.says(1001, others()[1]), api.ErrMessage},
	)
}

// TestVoteFaults is of promise 14.2: what cert refuses has its error, ahead of a view below, a number that is not within, and one that is there.
func TestVoteFaults(t *testing.T) {
	l := newLog(t, 1)
	l.sets("view", 2, api.OK)
	l.lifts("low", 4, api.OK)
	for _, kind := range voteKinds() {
		l.takesVote("there", l.vote(2, kind, 2, 6, 0), api.OK)
		for _, view := range []int{0, 2, 3} {
			for _, seq := range []int{1, 4, 5, 6, 12, 13, top} {
				for _, x := range l.voteFaults(kind, view, seq) {
					l.takesVote(fmt.Sprintf("%s, kind %d, view %d, number %d", x.what, kind, view, seq), x.e, x.err)
				}
			}
		}
	}
}

// TestVoteOrder is of promise 14.2: a view below is told ahead of a number that is not within, and both ahead of one that is there.
func TestVoteOrder(t *testing.T) {
	for _, kind := range voteKinds() {
		l := newLog(t, 1)
		l.sets("view", 2, api.OK)
		l.lifts("low", 4, api.OK)
		for seq := 5; seq <= 12; seq++ {
			l.takesVote("there", l.vote(1, kind, 3, seq, 0), api.OK)
		}
		for _, seq := range []int{1, 4, 5, 12, 13, top} {
			l.takesVote("of a view below", l.vote(1, kind, 1, seq, 0), api.ErrView)
		}
		for _, seq := range []int{1, 4, 13, top} {
			l.takesVote("not within", l.vote(1, kind, 3, seq, 0), api.ErrSeq)
		}
	}
}

// TestVoteDigests is of promise 14.2: a vote may be for any digest, as a pre-prepare may come later, or never.
func TestVoteDigests(t *testing.T) {
	l := newLog(t, 1)
	for i, d := range []api.Digest{"", "x", api.Digest(make([]byte, 5000)), l.digest(2)} {
		for _, kind := range voteKinds() {
			l.takesVote("for a digest", l.says(i, api.Message{Kind: kind, View: 0, Seq: 1, Digest: d}), api.OK)
		}
	}
	l.takesPre("later", l.pre(0, 1, 2), api.OK)
}
