package cert_test

import (
	"fmt"
	"math/rand"
	"slices"
	"testing"

	"quaestor/api"
	"quaestor/message"
)

// dice picks what is said.
type dice struct{ *rand.Rand }

// seldom is true once in n times.
func (d dice) seldom(n int) bool { return d.Intn(n) == 0 }

// spoil does something to what is said, which need not be a fault.
func (d dice) spoil(w world, s said) said {
	switch d.Intn(9) {
	case 0:
		s.signer = []int{-1, 0, 1, 2, 3, 4, 6, 7, 999, 1000, 1001, 1002, 1003}[d.Intn(13)]
	case 1:
		s.forged = true
		s.m.Digest, s.m.Data = "forged", nil
		if s.m.Kind == api.MsgRequest {
			s.m.Digest, s.m.Data = "", []byte("forged")
		}
	case 2:
		s.garbled = true
	case 3:
		s.m = messages()[d.Intn(len(messages()))]
	case 4:
		if s.m.Kind == api.MsgPrePrepare || s.m.Kind == api.MsgPrepare || s.m.Kind == api.MsgCommit {
			s.m.View = d.Intn(2 * w.N())
		}
	case 5:
		if s.m.Kind != api.MsgRequest {
			s.m.Seq = 1 + d.Intn(3)
		}
	case 6:
		if s.m.Kind != api.MsgRequest {
			s.m.Digest = []api.Digest{"", "d", message.Batch(nil)}[d.Intn(3)]
		}
	case 7:
		if s.m.Kind == api.MsgRequest {
			s.m.Client = []int{0, 1, 1000, 1001, 1002}[d.Intn(5)]
		}
	case 8:
		s.signer = d.Intn(w.N())
	}
	return s
}

// batch picks requests, almost all of them right.
func (d dice) batch(w world) []said {
	var l []said
	for i := range d.Intn(api.MaxBatch + 1) {
		s := asks(1000+d.Intn(clients), 1+i, "x")
		if d.seldom(30) {
			s = d.spoil(w, s)
		}
		if s.signer >= 0 {
			l = append(l, s)
		}
	}
	return l
}

// voters picks who votes: those who may, in some order, now and then less of them.
func (d dice) voters(may []int, enough int) []int {
	d.Shuffle(len(may), func(i, j int) { may[i], may[j] = may[j], may[i] })
	n := enough + d.Intn(len(may)-enough+1)
	if d.seldom(6) {
		n = d.Intn(len(may) + 1)
	}
	return may[:n]
}

// votes picks votes, most of them right.
func (d dice) votes(w world, kind int, pre api.Message, voters []int) []said {
	l := votes(kind, pre, voters...)
	for i := range l {
		if d.seldom(20) {
			l[i] = d.spoil(w, l[i])
		}
		if i > 0 && d.seldom(40) {
			l[i] = l[d.Intn(i)]
		}
	}
	return l
}

// reckonOpen tells plainly what is told of who said something, that should be of a kind.
func reckonOpen(f int, s said, kind int) api.Errno {
	replica := s.signer >= 0 && s.signer <= 3*f
	client := s.signer >= 1000 && s.signer < 1000+clients
	switch {
	case !replica && !client:
		return api.ErrSigner
	case s.forged:
		return api.ErrSigned
	case s.garbled || s.m.Kind != kind:
		return api.ErrMessage
	}
	return api.OK
}

// reckonPre tells plainly what is told of a pre-prepare of these requests.
func reckonPre(f int, s said, batch []said) api.Errno {
	if err := reckonOpen(f, s, api.MsgPrePrepare); err != api.OK {
		return err
	}
	if s.signer != s.m.View%(3*f+1) {
		return api.ErrPrimary
	}
	if s.m.Digest != message.Batch(s.m.Batch) {
		return api.ErrDigest
	}
	if len(s.m.Batch) == 0 { // it is another one than that of these requests
		return api.OK
	}
	for _, x := range batch {
		if err := reckonOpen(f, x, api.MsgRequest); err != api.OK {
			return err
		}
		if x.m.Client != x.signer {
			return api.ErrMessage
		}
	}
	return api.OK
}

// reckonVotes tells plainly what is told of votes, of which each has what errors there are beside those of all votes.
func reckonVotes(f, kind, enough int, l []said, own func(s said) api.Errno) api.Errno {
	seen := map[int]bool{}
	for _, s := range l {
		if err := reckonOpen(f, s, kind); err != api.OK {
			return err
		}
		if s.signer > 3*f {
			return api.ErrSigner
		}
		if err := own(s); err != api.OK {
			return err
		}
		if seen[s.signer] {
			return api.ErrTwice
		}
		seen[s.signer] = true
	}
	if len(l) < enough {
		return api.ErrQuorum
	}
	return api.OK
}

// reckon tells plainly what is told of a certificate.
func reckon(f int, p proof, x papers, batch []said) api.Errno {
	if err := reckonPre(f, x.pre, batch); err != api.OK {
		return err
	}
	return reckonVotes(f, p.kind, p.enough(f), x.votes, func(s said) api.Errno {
		switch {
		case s.m.View != x.pre.m.View:
			return api.ErrView
		case s.m.Seq != x.pre.m.Seq:
			return api.ErrSeq
		case s.m.Digest != x.pre.m.Digest:
			return api.ErrDigest
		case p.barred && s.signer == x.pre.m.View%(3*f+1):
			return api.ErrPrimary
		}
		return api.OK
	})
}

// seen counts what was told in a walk.
type seen map[api.Errno]int

// all fails if one of the errors was told too seldom to tell.
func (n seen) all(t *testing.T, least int, want ...api.Errno) {
	t.Helper()
	for _, err := range want {
		if n[err] < least {
			t.Errorf("error %d is told %d times", err, n[err])
		}
	}
}

// TestWalkOfCerts is of promises 13.1 to 13.3, and 13.5: random certificates are told as they are plainly reckoned, and where they are proved, so many replicas have signed.
func TestWalkOfCerts(t *testing.T) {
	d := dice{rand.New(rand.NewSource(13))}
	told := seen{}
	for i := range 20000 {
		f := d.Intn(api.MaxF + 1)
		w := newWorld(t, f)
		p := proofs()[d.Intn(2)]
		batch := d.batch(w)
		view := d.Intn(2 * w.N())
		pre := said{signer: w.Primary(view), m: proposal(view, 1+d.Intn(3), w.envelopes(batch))}
		if d.seldom(6) {
			pre = d.spoil(w, pre)
		}
		l := d.votes(w, p.kind, proposal(pre.m.View, max(pre.m.Seq, 1), pre.m.Batch), d.voters(p.signers(w, view), p.enough(f)))
		x := papers{pre, l}
		want := reckon(f, p, x, batch)
		w.proves(fmt.Sprintf("walk %d, F %d", i, f), p, x, want)
		told[want]++
		if want == api.OK {
			w.decided(x)
		}
	}
	told.all(t, 20, api.OK, api.ErrSigner, api.ErrSigned, api.ErrMessage, api.ErrPrimary, api.ErrView, api.ErrSeq, api.ErrDigest, api.ErrTwice, api.ErrQuorum)
}

// decided holds that a quorum has signed: those who voted, and the primary.
func (w world) decided(x papers) {
	w.Helper()
	signers := []int{x.pre.signer}
	for _, s := range x.votes {
		signers = append(signers, s.signer)
	}
	if w.Count(signers) < w.Quorum() {
		w.Errorf("%v have signed what is proved", signers)
	}
}

// TestWalkOfCheckpoints is of promises 13.2, 13.4 and 13.5: random checkpoints are told as they are plainly reckoned.
func TestWalkOfCheckpoints(t *testing.T) {
	d := dice{rand.New(rand.NewSource(14))}
	told := seen{}
	for i := range 20000 {
		f := d.Intn(api.MaxF + 1)
		w := newWorld(t, f)
		seq := d.Intn(4)
		l := d.votes(w, api.MsgCheckpoint, api.Message{Seq: max(seq, 1), Digest: "d"}, d.voters(upTo(w.N()), 2*f+1))
		if seq == 0 && d.seldom(2) {
			l = nil
		}
		want := api.ErrMessage
		switch {
		case seq == 0 && len(l) == 0:
			want = api.OK
		case seq > 0:
			want = reckonVotes(f, api.MsgCheckpoint, 2*f+1, l, func(s said) api.Errno {
				if s.m.Seq != seq {
					return api.ErrSeq
				}
				if s.m.Digest != l[0].m.Digest {
					return api.ErrDigest
				}
				return api.OK
			})
		}
		digest := api.Digest("")
		if seq > 0 && len(l) > 0 {
			digest = l[0].m.Digest
		}
		w.stable(fmt.Sprintf("walk %d, F %d", i, f), seq, w.envelopes(l), digest, want)
		told[want]++
		if want == api.OK && seq > 0 {
			w.decided(papers{l[0], slices.Clone(l)})
		}
	}
	told.all(t, 20, api.OK, api.ErrSigner, api.ErrSigned, api.ErrMessage, api.ErrSeq, api.ErrDigest, api.ErrTwice, api.ErrQuorum)
}
