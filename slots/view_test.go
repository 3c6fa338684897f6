package slots_test

import (
	"fmt"
	"testing"

	"quaestor/api"
)

// TestNew is of promise 14.1: view 0, low mark 0, and nothing.
func TestNew(t *testing.T) {
	for f := range api.MaxF + 1 {
		l := newLog(t, f)
		l.holds("new")
		if l.s.View() != 0 || l.s.Low() != 0 || l.s.Last() != 0 || l.s.Size() != 0 {
			t.Errorf("F %d: a new one has view %d, low %d, last %d, size %d", f, l.s.View(), l.s.Low(), l.s.Last(), l.s.Size())
		}
	}
}

// TestSetView is of promise 14.1: from each view to each number, which is one if it is above, and at most 2^40.
func TestSetView(t *testing.T) {
	for _, from := range ints() {
		for _, to := range ints() {
			l := newLog(t, 1)
			if from > 0 && from <= top {
				l.sets("from", from, api.OK)
			}
			want := api.ErrView
			if to > l.view && to <= top {
				want = api.OK
			}
			l.sets(fmt.Sprintf("from %d", l.view), to, want)
			if want == api.OK && l.s.View() != to {
				t.Errorf("the view is %d, not %d", l.s.View(), to)
			}
			l.sets("again", to, api.ErrView)
		}
	}
}

// TestSetViewLets is of promise 14.1: in another view there is no pre-prepare, and no vote of a view below it; those of it and of views above stay.
func TestSetViewLets(t *testing.T) {
	for v := 1; v <= 6; v++ {
		l := newLog(t, 1)
		l.takesPre("pre", l.pre(0, 1, 1), api.OK)
		l.takesPre("pre", l.pre(0, 8, 2), api.OK)
		for signer := range 4 {
			l.takesVote("prepare", l.vote(signer, api.MsgPrepare, signer, 1, 1), api.OK)
			l.takesVote("commit", l.vote(signer, api.MsgCommit, signer+1, 8, 2), api.OK)
		}
		l.sets("next", v, api.OK)
		// The prepares are of views 0 to 3, the commits of 1 to 4.
		if want := max(4-v, 0) + max(5-v, 0); l.s.Size() != want || l.s.Last() != 0 {
			t.Errorf("view %d: %d envelopes are there, want %d; last %d", v, l.s.Size(), want, l.s.Last())
		}
		for _, n := range []int{1, 8} {
			if _, ok := l.s.At(n); ok {
				t.Errorf("view %d: there is a pre-prepare for %d", v, n)
			}
		}
		l.takesPre("one of the view ahead", l.pre(v-1, 1, 1), api.ErrView)
		l.takesPre("pre", l.pre(v, 1, 3), api.OK)
		l.sets("the same", v, api.ErrView)
		l.sets("the one ahead", v-1, api.ErrView)
	}
}

// TestSetViewKeepsLow is of promise 14.1: the low mark stays, and what is within.
func TestSetViewKeepsLow(t *testing.T) {
	l := newLog(t, 1)
	l.lifts("low", 4, api.OK)
	l.sets("view", 3, api.OK)
	l.takesPre("at the low mark", l.pre(3, 4, 0), api.ErrSeq)
	l.takesPre("beyond it", l.pre(3, 5, 0), api.OK)
	l.takesPre("the last one within", l.pre(3, 12, 0), api.OK)
	l.takesPre("beyond the window", l.pre(3, 13, 0), api.ErrSeq)
	if l.s.Low() != 4 || l.s.View() != 3 {
		t.Errorf("low %d, view %d", l.s.Low(), l.s.View())
	}
}

// TestVotesAhead is of promises 14.1 and 14.3: votes of a view that comes stand for it when it has come, with a pre-prepare of it.
func TestVotesAhead(t *testing.T) {
	l := newLog(t, 1)
	for _, signer := range []int{3, 0, 2} {
		l.takesVote("prepare", l.vote(signer, api.MsgPrepare, 5, 2, 1), api.OK)
		l.takesVote("commit", l.vote(signer, api.MsgCommit, 5, 2, 1), api.OK)
	}
	l.takesPre("of this view", l.pre(0, 2, 1), api.OK)
	if _, ok := l.s.Committed(2); ok {
		t.Error("votes of view 5 commit in view 0")
	}
	l.sets("view 4", 4, api.OK)
	l.sets("view 5", 5, api.OK)
	l.takesPre("of view 5", l.pre(5, 2, 1), api.OK)
	if c, ok := l.s.Prepared(2); !ok || len(c.Votes) != 3 {
		t.Errorf("prepared %t by %v", ok, signers(c))
	}
	if c, ok := l.s.Committed(2); !ok || len(c.Votes) != 3 {
		t.Errorf("committed %t by %v", ok, signers(c))
	}
	l.sets("view 6", 6, api.OK)
	if l.s.Size() != 0 {
		t.Errorf("%d envelopes stay", l.s.Size())
	}
}

// TestAdvance is of promise 14.1: from each low mark to each number, which is one if it is not below, and at most 2^40.
func TestAdvance(t *testing.T) {
	for _, from := range ints() {
		for _, to := range ints() {
			l := newLog(t, 1)
			if from >= 0 && from <= top {
				l.lifts("from", from, api.OK)
			}
			want := api.ErrSeq
			if to >= l.low && to <= top {
				want = api.OK
			}
			l.lifts(fmt.Sprintf("from %d", l.low), to, want)
			if want == api.OK && (l.s.Low() != to || l.s.Last() != to) {
				t.Errorf("low %d, last %d, not %d", l.s.Low(), l.s.Last(), to)
			}
		}
	}
}

// TestAdvanceLets is of promise 14.1: what is not beyond the low mark is gone, of all kinds and views; what is beyond stays.
func TestAdvanceLets(t *testing.T) {
	for n := range 20 {
		l := newLog(t, 1)
		for seq := 1; seq <= room; seq++ {
			l.takesPre("pre", l.pre(0, seq, 1), api.OK)
			for signer := range 4 {
				l.takesVote("prepare", l.vote(signer, api.MsgPrepare, 0, seq, 1), api.OK)
				l.takesVote("commit", l.vote(signer, api.MsgCommit, seq%3, seq, 1), api.OK)
			}
		}
		l.lifts("on", n, api.OK)
		if want := 9 * max(room-n, 0); l.s.Size() != want {
			t.Errorf("low %d: %d envelopes are there, want %d", n, l.s.Size(), want)
		}
		if want := max(n, room); l.s.Last() != want {
			t.Errorf("low %d: last %d, want %d", n, l.s.Last(), want)
		}
		if n > 0 {
			l.lifts("back", n-1, api.ErrSeq)
			l.takesPre("at the low mark", l.pre(0, n, 1), api.ErrSeq)
			l.takesVote("at the low mark", l.vote(1, api.MsgPrepare, 0, n, 1), api.ErrSeq)
		}
		l.takesPre("the last one within", l.pre(0, n+room, 2), map[bool]api.Errno{true: api.OK, false: api.ErrTwice}[n > 0])
		l.lifts("nowhere", n, api.OK)
	}
}

// TestAtTheEnd is of promises 14.1 and 14.2: at the greatest view and low mark nothing overflows, and what may be beyond is not well.
func TestAtTheEnd(t *testing.T) {
	l := newLog(t, 2)
	l.sets("the last view", top, api.OK)
	l.lifts("almost the last number", top-1, api.OK)
	l.takesPre("the last number", l.pre(top, top, 1), api.OK)
	for signer := range 7 {
		l.takesVote("the last number", l.vote(signer, api.MsgCommit, top, top, 1), api.OK)
		l.takesVote("the one ahead", l.vote(signer, api.MsgCommit, top, top-1, 1), api.ErrSeq)
		l.takesVote("the view ahead", l.vote(signer, api.MsgCommit, top-1, top, 1), api.ErrView)
	}
	if c, ok := l.s.Committed(top); !ok || len(c.Votes) != 7 {
		t.Errorf("committed %t by %v", ok, signers(c))
	}
	l.sets("beyond", top+1, api.ErrView)
	l.lifts("the last number", top, api.OK)
	l.takesPre("nothing is beyond", l.pre(top, top, 1), api.ErrSeq)
	l.lifts("beyond", top+1, api.ErrSeq)
}
