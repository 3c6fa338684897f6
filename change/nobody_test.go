package change_test

import (
	"testing"

	"quaestor/api"
	"quaestor/authn"
	"quaestor/change"
)

// TestNobody is of promises 15.1 and 15.3, and rule R1: where nobody is known nothing is told, be it right elsewhere, or nothing at all.
func TestNobody(t *testing.T) {
	for f := range api.MaxF + 1 {
		w := newWorld(t, f)
		l, _ := w.lists(2)
		right := w.newView(2, l...)
		all := append([]api.Envelope{{}, {Signer: -1}, {Signer: 1000}, w.says(w.Primary(2), right)}, right.Batch...)
		for _, signer := range ints() {
			all = append(all, api.Envelope{Signer: signer, Body: right.Batch[0].Body})
		}
		for name, a := range map[string]*authn.Authority{"nil": nil, "not made": {}} {
			none := world{t, a}
			for _, e := range all {
				none.reads(name, e, api.Message{}, api.ErrSigner)
				none.news(name, e, api.Message{}, 0, api.ErrSigner)
			}
		}
	}
}

// TestOthersKnow is of promises 15.1 and 15.3: what one authority knows another one of the same size does not.
func TestOthersKnow(t *testing.T) {
	w, other := newWorld(t, 1), newWorld(t, 1)
	l, low := w.lists(2)
	right := w.newView(2, l...)
	e := w.says(2, right)
	w.news("here", e, right, low, api.OK)
	other.news("there", e, api.Message{}, 0, api.ErrSigned)
	other.reads("there", right.Batch[0], api.Message{}, api.ErrSigned)

	other.says(2, right) // all else is not signed there
	other.news("signed there", e, api.Message{}, 0, api.ErrSigned)
	other.says(l[0].signer, l[0].m)
	other.reads("signed there", right.Batch[0], api.Message{}, api.ErrProof)
}

// TestRareSigners is of rule R1: whoever an envelope is said to be of, there is an answer.
func TestRareSigners(t *testing.T) {
	w := newWorld(t, 1)
	m := w.brought(1, 0)
	body := w.says(1, m).Body
	for _, signer := range ints() {
		want := api.ErrSigner
		switch {
		case signer == 1:
			want = api.OK
		case w.Known(signer):
			want = api.ErrSigned
		}
		w.reads("rare", api.Envelope{Signer: signer, Body: body}, m, want)
		if _, _, err := change.News(w.Authority, api.Envelope{Signer: signer, Body: body}); err == api.OK {
			t.Errorf("a view-change of %d is a new view", signer)
		}
	}
}
