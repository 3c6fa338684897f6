package cert_test

import (
	"testing"

	"quaestor/api"
	"quaestor/authn"
	"quaestor/cert"
)

// nobodies are authorities that know nobody.
func nobodies() map[string]*authn.Authority {
	return map[string]*authn.Authority{"nil": nil, "not made": {}}
}

// TestNobody is of the chapter's first words and rule R1: where nobody is known nothing is proved, be it right elsewhere, or nothing at all.
func TestNobody(t *testing.T) {
	w := newWorld(t, 1)
	ask := w.envelope(asks(1000, 1, "x"))
	for name, a := range nobodies() {
		none := world{t, a}
		for _, e := range []api.Envelope{ask, {}, {Signer: -1}, {Signer: 1000}} {
			none.request(name, e, api.Request{}, api.ErrSigner)
			none.prePrepare(name, e, api.Message{}, api.ErrSigner)
			for _, kind := range append(kinds(), 0, api.MsgRequest, 12, -1) {
				none.vote(name, e, kind, api.Message{}, api.ErrSigner)
			}
		}
		for n := range 10 {
			none.batch(name, make([]api.Envelope, n), api.ErrSigner)
			none.batch(name, w.requests(n), api.ErrSigner)
			for _, seq := range ints() {
				none.stable(name, seq, make([]api.Envelope, n), "", api.ErrSigner)
			}
			none.stable(name, 4, w.envelopes(checkpoints(4, "d", upTo(min(n, 4))...)), "", api.ErrSigner)
		}
		for _, p := range proofs() {
			for _, c := range []api.Cert{{}, {Votes: make([]api.Envelope, 3)}, w.cert(p.right(w, 2, 1, 0)), w.cert(p.right(w, 0, 1, 2))} {
				got, err := p.ask(a, c)
				none.hold(name+", "+p.name, got, err, api.Message{}, api.ErrSigner)
			}
		}
	}
}

// TestOthersKnow is of promise 13.5: what is proved by one authority is not by another one, of the same size.
func TestOthersKnow(t *testing.T) {
	w, other := newWorld(t, 1), newWorld(t, 1)
	pre := w.proposed(2, 1, 1)
	w.prePrepare("here", w.envelope(pre), pre.m, api.OK)
	other.prePrepare("there", w.envelope(pre), api.Message{}, api.ErrSigned)
	other.batch("there", w.requests(1), api.ErrSigned)
	other.stable("there", 4, w.envelopes(checkpoints(4, "d", 0, 1, 2)), "", api.ErrSigned)
	for _, p := range proofs() {
		c := w.cert(p.right(w, 2, 1, 1))
		if _, err := p.ask(w.Authority, c); err != api.OK {
			t.Errorf("%s here: %d", p.name, err)
		}
		got, err := p.ask(other.Authority, c)
		other.hold(p.name+" there", got, err, api.Message{}, api.ErrSigned)
	}
	if _, err := cert.Vote(other.Authority, w.envelope(checkpoints(4, "d", 0)[0]), api.MsgCheckpoint); err != api.ErrSigned {
		t.Errorf("a vote there: %d", err)
	}
}
