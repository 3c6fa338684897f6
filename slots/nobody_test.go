package slots_test

import (
	"testing"

	"quaestor/api"
	"quaestor/authn"
	"quaestor/slots"
)

// TestNotMade is of the chapter's last words and rule R1: nil ones, ones that New did not make, and those of no authority: they have nothing, and take nothing.
func TestNotMade(t *testing.T) {
	l := newLog(t, 1)
	envelopes := []api.Envelope{{}, {Signer: -1}, l.pre(0, 1, 1), l.pre(3, 9, 1), l.vote(1, api.MsgPrepare, 0, 1, 1), l.vote(1, api.MsgCommit, 1, 9, 1), l.signs(1, nil), {Signer: 1, Body: []byte("x")}}
	for name, s := range map[string]*slots.Slots{"nil": nil, "not made": {}, "of no authority": slots.New(nil)} {
		for range 2 {
			for _, n := range ints() {
				if err := s.SetView(n); err != api.ErrArg {
					t.Errorf("%s: SetView(%d): %d", name, n, err)
				}
				if err := s.Advance(n); err != api.ErrArg {
					t.Errorf("%s: Advance(%d): %d", name, n, err)
				}
				e, ok := s.At(n)
				p, prepared := s.Prepared(n)
				c, committed := s.Committed(n)
				if ok || prepared || committed || !sameEnvelope(e, api.Envelope{}) || !sameCert(p, api.Cert{}) || !sameCert(c, api.Cert{}) {
					t.Errorf("%s: there is something for %d", name, n)
				}
			}
			for _, e := range envelopes {
				if err := s.Pre(e); err != api.ErrArg {
					t.Errorf("%s: Pre: %d", name, err)
				}
				if err := s.Vote(e); err != api.ErrArg {
					t.Errorf("%s: Vote: %d", name, err)
				}
			}
			if s.View() != 0 || s.Low() != 0 || s.Last() != 0 || s.Size() != 0 {
				t.Errorf("%s: view %d, low %d, last %d, size %d", name, s.View(), s.Low(), s.Last(), s.Size())
			}
		}
	}
}

// TestNobodyKnown is of rule R1: slots of an authority that knows nobody go on, and take nothing.
func TestNobodyKnown(t *testing.T) {
	l := newLog(t, 1)
	s := slots.New(&authn.Authority{})
	for _, e := range []api.Envelope{{}, l.pre(0, 1, 1), l.vote(1, api.MsgCommit, 0, 1, 1)} {
		if pre, vote := s.Pre(e), s.Vote(e); pre != api.ErrSigner || vote != api.ErrSigner {
			t.Errorf("Pre %d, Vote %d", pre, vote)
		}
	}
	if s.SetView(3) != api.OK || s.Advance(5) != api.OK || s.View() != 3 || s.Low() != 5 || s.Last() != 5 || s.Size() != 0 {
		t.Errorf("view %d, low %d, last %d, size %d", s.View(), s.Low(), s.Last(), s.Size())
	}
	for n := range 16 {
		_, ok := s.At(n)
		_, prepared := s.Prepared(n)
		_, committed := s.Committed(n)
		if ok || prepared || committed {
			t.Errorf("there is something for %d", n)
		}
	}
}
