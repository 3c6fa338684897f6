package slots_test

import (
	"fmt"
	"testing"

	"quaestor/api"
	"quaestor/slots"
)

// TestRoom is of promise 14.4: however much is said, by all, for all views and numbers: there are at most Window times one more than twice as many as replicas, and so many there may be.
func TestRoom(t *testing.T) {
	for f := range api.MaxF + 1 {
		l := full(t, f)
		most := []int{24, 72, 120}[f]
		if l.s.Size() != most {
			t.Errorf("F %d: a full one has %d envelopes, want %d", f, l.s.Size(), most)
		}
		for seq := 1; seq <= room+4; seq++ {
			for n := range 3 {
				l.s.Pre(l.pre(0, seq, n))
				for signer := range l.N() {
					for view := range 4 {
						l.s.Vote(l.vote(signer, api.MsgPrepare, view, seq, n))
						l.s.Vote(l.vote(signer, api.MsgCommit, view, seq, n))
					}
				}
			}
			if l.s.Size() != most {
				t.Errorf("F %d: there are %d envelopes", f, l.s.Size())
			}
		}
	}
}

// TestOneDigest is of promise 14.4: a primary that proposes two batches for each number, in any order: one digest is ever taken, and only of it is anything told, though all vote for both.
func TestOneDigest(t *testing.T) {
	for _, view := range []int{0, 5} {
		for order := range 2 {
			l := newLog(t, 1)
			if view > 0 {
				l.sets("view", view, api.OK)
			}
			for seq := 1; seq <= room; seq++ {
				first := (seq + order) % 2
				l.takesPre("the first one", l.pre(view, seq, first), api.OK)
				l.takesPre("the second one", l.pre(view, seq, 1-first), api.ErrTwice)
				for signer := range 4 {
					for _, kind := range voteKinds() {
						l.takesVote("for one of them", l.vote(signer, kind, view, seq, signer%2), api.OK)
						l.takesVote("for the other one", l.vote(signer, kind, view, seq, 1-signer%2), api.ErrTwice)
					}
				}
				// Half of all vote for the first one; without the primary they are two.
				l.told("half of them", asks()[0], seq, view%2 != first, first, first+2)
				l.told("half of them", asks()[1], seq, false)
				l.takesPre("the second one, behind the votes", l.pre(view, seq, 1-first), api.ErrTwice)
				l.takesPre("the first one, again", l.pre(view, seq, first), api.ErrExists)
			}
		}
	}
}

// TestApart is of rule R5: slots of one authority have nothing in common.
func TestApart(t *testing.T) {
	l := full(t, 1)
	other := &log{TB: t, Authority: l.Authority, s: slots.New(l.Authority)}
	other.holds("beside a full one")
	other.takesPre("of its own", other.pre(0, 1, 4), api.OK)
	other.sets("its own view", 7, api.OK)
	other.lifts("its own low mark", 3, api.OK)
	l.holds("beside another one")
}

// TestOfAnotherAuthority is of promise 14.2: what was signed by another authority's replicas was not signed.
func TestOfAnotherAuthority(t *testing.T) {
	l, other := newLog(t, 1), newLog(t, 1)
	l.takesPre("pre", other.pre(0, 1, 1), api.ErrSigned)
	for signer := range 4 {
		for _, kind := range voteKinds() {
			l.takesVote(fmt.Sprintf("vote of %d", signer), other.vote(signer, kind, 0, 1, 1), api.ErrSigned)
		}
	}
}
