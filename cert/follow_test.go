package cert_test

import (
	"bytes"
	"fmt"
	"math/bits"
	"slices"
	"testing"

	"quaestor/api"
	"quaestor/cert"
)

// TestDecidedByHonest is of promise 13.5: of each set of replicas, and each set of those that may be faulty: where it commits, or makes stable, more honest ones have signed than may be faulty.
func TestDecidedByHonest(t *testing.T) {
	for f := range api.MaxF + 1 {
		w := newWorld(t, f)
		pre := w.proposed(1, 4, 1)
		c := w.cert(papers{pre, votes(api.MsgCommit, pre.m, upTo(w.N())...)})
		l := w.envelopes(checkpoints(4, "d", upTo(w.N())...))
		decided := 0
		for set := range uint(1) << w.N() {
			pick := func(all []api.Envelope) []api.Envelope {
				return slices.DeleteFunc(slices.Clone(all), func(e api.Envelope) bool { return set&(1<<e.Signer) == 0 })
			}
			_, err := cert.Committed(w.Authority, api.Cert{Pre: c.Pre, Votes: pick(c.Votes)})
			_, stableErr := cert.Stable(w.Authority, 4, pick(l))
			if err != stableErr {
				t.Errorf("F %d, %b: committed %d, stable %d", f, set, err, stableErr)
			}
			if err != api.OK {
				continue
			}
			decided++
			for faulty := range uint(1) << w.N() {
				if bits.OnesCount(faulty) == f && bits.OnesCount(set&^faulty) <= f {
					t.Errorf("F %d: %b decide, of which %b are faulty", f, set, faulty)
				}
			}
		}
		if want := []int{1, 5, 29}[f]; decided != want {
			t.Errorf("F %d: %d sets decide, want %d", f, decided, want)
		}
	}
}

// TestUnsignedProvesNothing is of promise 13.5: what is right but for one signature, be it a request's, the primary's or a voter's, is not proved.
func TestUnsignedProvesNothing(t *testing.T) {
	for f := range api.MaxF + 1 {
		for _, p := range proofs() {
			for missing := range api.MaxBatch + 1 + p.enough(f) + 1 {
				w := newWorld(t, f)
				var all []said
				for i := range api.MaxBatch {
					all = append(all, asks(1000, 1+i, "x"))
					all[i].forged = missing == i
				}
				pre := said{signer: w.Primary(5), m: proposal(5, 3, w.envelopes(all)), forged: missing == api.MaxBatch}
				x := papers{pre, votes(p.kind, pre.m, p.signers(w, 5)[:p.enough(f)]...)}
				for i := range x.votes {
					x.votes[i].forged = missing == api.MaxBatch+1+i
				}
				want := api.ErrSigned
				if missing == api.MaxBatch+1+len(x.votes) {
					want = api.OK
				}
				w.proves(fmt.Sprintf("signature %d missing", missing), p, x, want)
			}
		}
		for missing := range 2*f + 1 {
			w := newWorld(t, f)
			x := checkpoints(4, "d", upTo(2*f+1)...)
			x[missing].forged = true
			w.stable(fmt.Sprintf("signature %d missing", missing), 4, w.envelopes(x), "", api.ErrSigned)
		}
	}
}

// TestChangedProvesNothing is of promise 13.5: each bit of each body, and each signer, of what is proved: nobody signed that.
func TestChangedProvesNothing(t *testing.T) {
	for _, p := range proofs() {
		w := newWorld(t, 1)
		x := p.right(w, 5, 3, 2)
		c := w.cert(x)
		all := append([]*api.Envelope{&c.Pre}, pointers(c.Votes)...)
		refused := func(what string, want api.Errno) {
			t.Helper()
			got, err := p.ask(w.Authority, c)
			w.hold(p.name+", "+what, got, err, api.Message{}, want)
		}
		for i, e := range all {
			was := e.Body
			for bit := range 8 * len(was) {
				e.Body = bytes.Clone(was)
				e.Body[bit/8] ^= 1 << (bit % 8)
				refused(fmt.Sprintf("bit %d of %d", bit, i), api.ErrSigned)
			}
			for n := range was {
				e.Body = was[:n]
				refused(fmt.Sprintf("%d bytes of %d", n, i), api.ErrSigned)
			}
			e.Body = was
			signer := e.Signer
			for _, n := range append(upTo(w.N(), signer), 1000, 1001, 1002) {
				e.Signer = n
				if i > 0 && slices.ContainsFunc(x.votes, func(s said) bool { return s.signer == n }) {
					refused(fmt.Sprintf("%d by %d, that voted too", i, n), api.ErrTwice)
					continue
				}
				refused(fmt.Sprintf("%d by %d", i, n), api.ErrSigned)
			}
			e.Signer = signer
		}
		if got, err := p.ask(w.Authority, c); err != api.OK || !same(got, x.pre.m) {
			t.Errorf("%s, unchanged: %d", p.name, err)
		}
	}
}

// pointers are where envelopes stand.
func pointers(l []api.Envelope) []*api.Envelope {
	var all []*api.Envelope
	for i := range l {
		all = append(all, &l[i])
	}
	return all
}

// TestOneIsPrepared is of promise 13.5: two batches for one view and number, of which each honest replica signs one, and the faulty ones, whoever they are, both: never are both prepared, nor both committed; nor are both of two checkpoints stable.
func TestOneIsPrepared(t *testing.T) {
	for f := range api.MaxF + 1 {
		w := newWorld(t, f)
		const view, seq = 9, 4
		two := []said{w.proposed(view, seq, 1), w.proposed(view, seq, 2)}
		once := 0
		for faulty := range uint(1) << w.N() {
			if bits.OnesCount(faulty) != f {
				continue
			}
			for choice := range uint(1) << w.N() {
				if choice&faulty != 0 { // what they would choose counts for nothing
					continue
				}
				signs := func(which, id int) bool { return faulty&(1<<id) != 0 || choice>>id&1 == uint(which) }
				if n := w.howMany(two, seq, signs); n > 1 {
					t.Errorf("F %d: faulty %b, choice %b: both are proved", f, faulty, choice)
				} else if n == 1 {
					once++
				}
			}
		}
		if once == 0 {
			t.Errorf("F %d: nothing is proved at all", f)
		}
	}
}

// howMany tells of how many of the two something is proved, where those have signed who are told; it fails if there is a second one of any proof.
func (w world) howMany(two []said, seq int, signs func(which, id int) bool) int {
	w.Helper()
	most := 0
	for _, p := range proofs() {
		n := 0
		for which, pre := range two {
			if !signs(which, pre.signer) {
				continue
			}
			voters := slices.DeleteFunc(p.signers(w, pre.m.View), func(id int) bool { return !signs(which, id) })
			if _, err := p.ask(w.Authority, w.cert(papers{pre, votes(p.kind, pre.m, voters...)})); err == api.OK {
				n++
			}
		}
		most = max(most, n)
	}
	n := 0
	for which := range two {
		voters := slices.DeleteFunc(upTo(w.N()), func(id int) bool { return !signs(which, id) })
		if _, err := cert.Stable(w.Authority, seq, w.envelopes(checkpoints(seq, two[which].m.Digest, voters...))); err == api.OK {
			n++
		}
	}
	return max(most, n)
}
