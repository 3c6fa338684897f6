package cert_test

import (
	"encoding/binary"
	"fmt"
	"testing"

	"quaestor/api"
	"quaestor/cert"
	"quaestor/message"
	"quaestor/term"
)

// prePrepare holds what PrePrepare tells.
func (w world) prePrepare(what string, e api.Envelope, want api.Message, wantErr api.Errno) {
	w.Helper()
	w.quiet(what, func() {
		got, err := cert.PrePrepare(w.Authority, e)
		w.hold("a pre-prepare, "+what, got, err, want, wantErr)
	})
}

// TestPrePrepare is of promise 13.2: pre-prepares of views and numbers to the ends of what may be, by the view's primary, of so many requests.
func TestPrePrepare(t *testing.T) {
	for f := range api.MaxF + 1 {
		w := newWorld(t, f)
		for _, view := range append(upTo(2*w.N()+2), 1<<32, top-1, top) {
			for _, seq := range []int{1, 2, 9, 1 << 32, top} {
				for n := range api.MaxBatch + 1 {
					s := w.proposed(view, seq, n)
					w.prePrepare("right", w.envelope(s), s.m, api.OK)
				}
			}
		}
	}
}

// TestPrePrepareOfSigners is of promise 13.2: the view's primary alone, of all who sign.
func TestPrePrepareOfSigners(t *testing.T) {
	for f := range api.MaxF + 1 {
		w := newWorld(t, f)
		for view := range 2*w.N() + 2 {
			s := w.proposed(view, 1, 1)
			for _, signer := range append(upTo(w.N()), 1000, 1001, 1002) {
				want := api.ErrPrimary
				if signer == view%(3*f+1) {
					want = api.OK
				}
				s.signer = signer
				w.prePrepare(fmt.Sprintf("of view %d by %d", view, signer), w.envelope(s), s.m, want)
			}
		}
	}
}

// TestPrePrepareOfFaults is of promise 13.2: each fault, and of each two the one that is told first, ahead of a request's, too.
func TestPrePrepareOfFaults(t *testing.T) {
	for _, f := range []int{1, 2} {
		pairs(preFaults(), func(l ...fault) {
			for n := range 3 {
				w := newWorld(t, f)
				w.prePrepare(whats(l), w.envelope(with(w, w.proposed(5, 3, n), nobodys(), l...)), api.Message{}, l[0].err)
			}
			w := newWorld(t, f)
			forged := asks(1000, 1, "x")
			forged.forged = true
			s := said{signer: w.Primary(5), m: proposal(5, 3, w.envelopes([]said{forged}))}
			w.prePrepare(whats(l)+", and a forged request", w.envelope(with(w, s, nobodys(), l...)), api.Message{}, l[0].err)
		})
	}
}

// TestPrePrepareOfRequests is of promise 13.2: each fault of a request at each place, and another one behind it, which is not told.
func TestPrePrepareOfRequests(t *testing.T) {
	for _, x := range requestFaults() {
		if x.what == "of nobody" { // no message has a signer below 0
			continue
		}
		for place := range api.MaxBatch {
			w := newWorld(t, 1)
			l := w.requests(api.MaxBatch)
			l[place] = w.envelope(with(w, asks(1001, 9, "x"), nobodys(), x))
			w.prePrepare(fmt.Sprintf("%s at %d", x.what, place), w.says(2, proposal(2, 1, l)), api.Message{}, x.err)
			if place+1 == len(l) {
				continue
			}
			for _, y := range []int{4, 3} { // a stranger, and a replica that has not signed
				l[place+1] = api.Envelope{Signer: y, Body: []byte("no request")}
				w.prePrepare(fmt.Sprintf("%s at %d, then one of %d", x.what, place, y), w.says(2, proposal(2, 1, l)), api.Message{}, x.err)
			}
		}
	}
}

// TestPrePrepareOfDigests is of promise 13.2: digests of batches that are near, but others.
func TestPrePrepareOfDigests(t *testing.T) {
	w := newWorld(t, 1)
	l := w.requests(3)
	near := [][]api.Envelope{nil, l[:1], l[:2], l[1:], {l[1], l[0], l[2]}, {l[0], l[1], l[2], l[2]}, {l[0], l[0], l[2]}}
	for i, x := range near {
		for j, y := range near {
			m := proposal(4, 1, x)
			m.Digest = message.Batch(y)
			want := api.ErrDigest
			if i == j {
				want = api.OK
			}
			w.prePrepare(fmt.Sprintf("of batch %d with the digest of %d", i, j), w.says(0, m), m, want)
		}
	}
	m := proposal(4, 1, l)
	for _, d := range []api.Digest{"", "x", m.Digest[:len(m.Digest)-1], m.Digest + "\x00", term.Of(8), term.Leaf(8, []byte(m.Digest)), term.Of(7, nil)} {
		m.Digest = d
		w.prePrepare(fmt.Sprintf("with the digest %q", d), w.says(0, m), api.Message{}, api.ErrDigest)
	}
}

// TestPrePrepareOfMany is of promise 13.2: bytes that have one request more than there may be are no message, though all else in them is right.
func TestPrePrepareOfMany(t *testing.T) {
	w := newWorld(t, 1)
	for n := 1; n <= api.MaxBatch+1; n++ {
		l := w.requests(n)
		m := proposal(0, 1, l[:n-1])
		m.Digest = message.Batch(l)
		x := message.Encode(m)
		binary.BigEndian.PutUint32(x[28+len(m.Digest):], uint32(n)) // behind kind, view, seq, and how long the digest is
		x = binary.BigEndian.AppendUint64(x, uint64(l[n-1].Signer))
		x = binary.BigEndian.AppendUint32(x, uint32(len(l[n-1].Body)))
		x = append(x, l[n-1].Body...)
		want := api.OK
		if n > api.MaxBatch {
			want = api.ErrMessage
		}
		w.prePrepare(fmt.Sprintf("of %d", n), w.signs(0, x), proposal(0, 1, l), want)
	}
}

// TestPrePrepareOfViews is of promise 13.2: one envelope by another signer, that did sign it, is another view's, or none's.
func TestPrePrepareOfViews(t *testing.T) {
	w := newWorld(t, 2)
	m := proposal(9, 1, nil)
	e := w.says(2, m)
	w.prePrepare("of replica 2", e, m, api.OK)
	e.Signer = 3
	w.prePrepare("of replica 3, that has not signed", e, api.Message{}, api.ErrSigned)
	w.says(3, m)
	w.prePrepare("of replica 3, that has signed", e, api.Message{}, api.ErrPrimary)
	e.Signer = 1000
	w.prePrepare("of a client, that has not signed", e, api.Message{}, api.ErrSigned)
	e.Signer = 7
	w.prePrepare("of a stranger", e, api.Message{}, api.ErrSigner)
}

// TestPrePrepareIsNew is of promise 13.2 (R4, R5): what is handed in stays as it is, and each answer is another one's memory, and the same.
func TestPrePrepareIsNew(t *testing.T) {
	w := newWorld(t, 1)
	for n := range api.MaxBatch + 1 {
		s := w.proposed(6, 2, n)
		l := looseList([]api.Envelope{w.envelope(s)})
		was := whole(l)
		first, _ := cert.PrePrepare(w.Authority, l[0])
		second, _ := cert.PrePrepare(w.Authority, l[0])
		if !same(first, s.m) || !same(second, s.m) || whole(l) != was {
			t.Errorf("%s, %s", tell(first), tell(second))
		}
		spoilMessage(first)
		if !same(second, s.m) || whole(l) != was {
			t.Errorf("%s: it goes with another answer", tell(second))
		}
		spoil(l)
		if !same(second, s.m) {
			t.Errorf("%s: it goes with what was handed in", tell(second))
		}
	}
}
