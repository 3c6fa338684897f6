package slots_test

import (
	"bytes"
	"cmp"
	"fmt"
	"math"
	"slices"
	"testing"

	"quaestor/api"
	"quaestor/authn"
	"quaestor/cert"
	"quaestor/message"
	"quaestor/slots"
)

// top is the greatest number that a message may have; room is how many numbers beyond the low mark are within.
const (
	top  = 1 << 40
	room = 8
)

// log is slots, and beside them plainly what must be in them: the envelopes in the order in which they came.
type log struct {
	testing.TB
	*authn.Authority
	s         *slots.Slots
	view, low int
	there     []entry
}

// entry is an envelope and what it says.
type entry struct {
	kind, signer, view, seq int
	digest                  api.Digest
	env                     api.Envelope
}

func newLog(t testing.TB, f int) *log {
	a := authn.New(f, 2)
	return &log{TB: t, Authority: a, s: slots.New(a)}
}

// says signs a message.
func (l *log) says(signer int, m api.Message) api.Envelope {
	l.Helper()
	return l.signs(signer, encode(l, m))
}

// signs signs bytes.
func (l *log) signs(signer int, body []byte) api.Envelope {
	l.Helper()
	e, err := l.Sign(signer, body)
	if err != api.OK {
		l.Fatalf("%d can't sign: %d", signer, err)
	}
	return e
}

// encode fails of a message that is not well.
func encode(t testing.TB, m api.Message) []byte {
	t.Helper()
	b := message.Encode(m)
	if len(b) == 0 {
		t.Fatalf("%+v is not well", m)
	}
	return b
}

// batch is of so many requests of a client, each another one.
func (l *log) batch(n int) []api.Envelope {
	l.Helper()
	var all []api.Envelope
	for i := range n {
		all = append(all, l.says(1000, api.Message{Kind: api.MsgRequest, Client: 1000, Stamp: 1 + i, Data: []byte("op")}))
	}
	return all
}

// proposal is a pre-prepare of a batch.
func proposal(view, seq int, batch []api.Envelope) api.Message {
	return api.Message{Kind: api.MsgPrePrepare, View: view, Seq: seq, Digest: message.Batch(batch), Batch: batch}
}

// pre is a pre-prepare of so many requests by the view's primary.
func (l *log) pre(view, seq, n int) api.Envelope {
	l.Helper()
	return l.says(view%l.N(), proposal(view, seq, l.batch(n)))
}

// digest is that of a batch of so many requests.
func (l *log) digest(n int) api.Digest {
	l.Helper()
	return message.Batch(l.batch(n))
}

// vote is one for a pre-prepare of so many requests.
func (l *log) vote(signer, kind, view, seq, n int) api.Envelope {
	l.Helper()
	return l.says(signer, api.Message{Kind: kind, View: view, Seq: seq, Digest: l.digest(n)})
}

// voteKinds are those of votes that slots take.
func voteKinds() []int { return []int{api.MsgPrepare, api.MsgCommit} }

// preWant tells plainly what Pre must tell.
func (l *log) preWant(e api.Envelope) (api.Message, api.Errno) {
	m, err := cert.PrePrepare(l.Authority, e)
	if err != api.OK {
		return m, err
	}
	if m.View != l.view {
		return m, api.ErrView
	}
	if m.Seq <= l.low || m.Seq > l.low+room {
		return m, api.ErrSeq
	}
	for _, x := range l.there {
		if x.kind == api.MsgPrePrepare && x.seq == m.Seq && x.digest == m.Digest {
			return m, api.ErrExists
		}
		if x.kind == api.MsgPrePrepare && x.seq == m.Seq {
			return m, api.ErrTwice
		}
	}
	return m, api.OK
}

// voteWant tells plainly what Vote must tell.
func (l *log) voteWant(e api.Envelope) (api.Message, api.Errno) {
	m, err := cert.Vote(l.Authority, e, api.MsgPrepare)
	if err == api.ErrMessage {
		m, err = cert.Vote(l.Authority, e, api.MsgCommit)
	}
	if err != api.OK {
		return m, err
	}
	if m.View < l.view {
		return m, api.ErrView
	}
	if m.Seq <= l.low || m.Seq > l.low+room {
		return m, api.ErrSeq
	}
	for _, x := range l.there {
		if x.kind == m.Kind && x.signer == e.Signer && x.seq == m.Seq && x.view >= m.View {
			return m, api.ErrTwice
		}
	}
	return m, api.OK
}

// put puts what was taken among what is there.
func (l *log) put(m api.Message, e api.Envelope) {
	l.there = slices.DeleteFunc(l.there, func(x entry) bool {
		return x.kind == m.Kind && x.signer == e.Signer && x.seq == m.Seq
	})
	l.there = append(l.there, entry{m.Kind, e.Signer, m.View, m.Seq, m.Digest, clone(e)})
}

// takes hands an envelope in, and holds what is told, and all that is there behind it.
func (l *log) takes(what string, e api.Envelope, want api.Errno, call func(api.Envelope) api.Errno, reckon func(api.Envelope) (api.Message, api.Errno)) {
	l.Helper()
	m, plain := reckon(e)
	if plain != want {
		l.Fatalf("%s: it is plainly %d, not %d", what, plain, want)
	}
	signed, is := l.Signed(), loose(e)
	was := whole(is)
	if got := call(is); got != want {
		l.Errorf("%s: %d, want %d", what, got, want)
	}
	if whole(is) != was || l.Signed() != signed {
		l.Errorf("%s: what was handed in is another one, or something was signed", what)
	}
	spoil(is)
	if want == api.OK {
		l.put(m, e)
	}
	l.holds(what)
}

func (l *log) takesPre(what string, e api.Envelope, want api.Errno) {
	l.Helper()
	l.takes(what, e, want, l.s.Pre, l.preWant)
}

func (l *log) takesVote(what string, e api.Envelope, want api.Errno) {
	l.Helper()
	l.takes(what, e, want, l.s.Vote, l.voteWant)
}

// sets begins a view.
func (l *log) sets(what string, v int, want api.Errno) {
	l.Helper()
	if got := l.s.SetView(v); got != want {
		l.Errorf("%s: SetView(%d): %d, want %d", what, v, got, want)
	}
	if want == api.OK {
		l.view = v
		l.there = slices.DeleteFunc(l.there, func(x entry) bool { return x.kind == api.MsgPrePrepare || x.view < v })
	}
	l.holds(what)
}

// lifts lifts the low mark.
func (l *log) lifts(what string, n int, want api.Errno) {
	l.Helper()
	if got := l.s.Advance(n); got != want {
		l.Errorf("%s: Advance(%d): %d, want %d", what, n, got, want)
	}
	if want == api.OK {
		l.low = n
		l.there = slices.DeleteFunc(l.there, func(x entry) bool { return x.seq <= n })
	}
	l.holds(what)
}

// at tells plainly the pre-prepare for a number.
func (l *log) at(n int) (entry, bool) {
	for _, x := range l.there {
		if x.kind == api.MsgPrePrepare && x.seq == n {
			return x, true
		}
	}
	return entry{}, false
}

// proof tells plainly the certificate of a kind for a number.
func (l *log) proof(n, kind int) (api.Cert, bool) {
	pre, ok := l.at(n)
	var votes []api.Envelope
	for _, x := range l.there {
		primary := x.signer == l.view%l.N() && kind == api.MsgPrepare
		if x.kind == kind && x.seq == n && x.view == l.view && x.digest == pre.digest && !primary {
			votes = append(votes, x.env)
		}
	}
	enough := 2 * l.F()
	if kind == api.MsgCommit {
		enough++
	}
	if !ok || len(votes) < enough {
		return api.Cert{}, false
	}
	slices.SortFunc(votes, func(a, b api.Envelope) int { return cmp.Compare(a.Signer, b.Signer) })
	return api.Cert{Pre: pre.env, Votes: votes}, true
}

// numbers are those that all is asked of: some below the low mark, all within, some beyond, and the ends of what an int can be.
func (l *log) numbers() []int {
	all := []int{math.MinInt, -1, 0, top + 1, math.MaxInt}
	for i := -2; i <= room+2; i++ {
		all = append(all, l.low+i)
	}
	return all
}

// holds holds all that slots tell against what must be there, and against what promise 14.4 says of them.
func (l *log) holds(what string) {
	l.Helper()
	last := l.low
	for _, n := range l.numbers() {
		pre, ok := l.at(n)
		if ok {
			last = max(last, n)
		}
		if got, there := l.s.At(n); there != ok || !sameEnvelope(got, pre.env) {
			l.Errorf("%s: At(%d): %d %q, %t; want %d %q, %t", what, n, got.Signer, got.Body, there, pre.env.Signer, pre.env.Body, ok)
		}
		l.holdsProof(fmt.Sprintf("%s: Prepared(%d)", what, n), n, api.MsgPrepare, l.s.Prepared, cert.Prepared)
		l.holdsProof(fmt.Sprintf("%s: Committed(%d)", what, n), n, api.MsgCommit, l.s.Committed, cert.Committed)
	}
	got := []int{l.s.View(), l.s.Low(), l.s.Last(), l.s.Size()}
	if want := []int{l.view, l.low, last, len(l.there)}; !slices.Equal(got, want) {
		l.Errorf("%s: view, low, last and size are %v, want %v", what, got, want)
	}
	if most := room * (1 + 2*l.N()); l.s.Size() > most {
		l.Errorf("%s: there are %d envelopes, %d at most", what, l.s.Size(), most)
	}
}

// holdsProof holds a certificate of a kind for a number against the plain one, and by chapter 13.
func (l *log) holdsProof(what string, n, kind int, ask func(int) (api.Cert, bool), check func(*authn.Authority, api.Cert) (api.Message, api.Errno)) {
	l.Helper()
	want, ok := l.proof(n, kind)
	got, there := ask(n)
	if there != ok || !sameCert(got, want) {
		l.Errorf("%s: %t, %v; want %t, %v", what, there, signers(got), ok, signers(want))
	}
	if !there {
		return
	}
	if m, err := check(l.Authority, got); err != api.OK || m.Seq != n || m.View != l.view {
		l.Errorf("%s: cert tells %d of it, for %d in view %d", what, err, m.Seq, m.View)
	}
	spoilCert(got)
}

// signers are those of a certificate's votes.
func signers(c api.Cert) []int {
	var all []int
	for _, e := range c.Votes {
		all = append(all, e.Signer)
	}
	return all
}

// ints are numbers that a view or a number may be, or none of them.
func ints() []int {
	return []int{math.MinInt, math.MinInt + 1, -1 << 40, -1 << 32, -2, -1, 0, 1, 2, 3, 7, 8, 9, 1000, 1 << 31, 1 << 32, top - 1, top, top + 1, math.MaxInt - 1, math.MaxInt}
}

func sameEnvelope(a, b api.Envelope) bool { return a.Signer == b.Signer && bytes.Equal(a.Body, b.Body) }

func sameCert(a, b api.Cert) bool {
	return sameEnvelope(a.Pre, b.Pre) && slices.EqualFunc(a.Votes, b.Votes, sameEnvelope)
}

func clone(e api.Envelope) api.Envelope {
	return api.Envelope{Signer: e.Signer, Body: bytes.Clone(e.Body)}
}

// loose is an envelope behind whose body's end other bytes stand.
func loose(e api.Envelope) api.Envelope {
	return api.Envelope{Signer: e.Signer, Body: append(bytes.Clone(e.Body), "behind"...)[:len(e.Body)]}
}

// whole tells all that stands in an envelope, behind its body's end too.
func whole(e api.Envelope) string {
	return fmt.Sprintf("%d %q", e.Signer, e.Body[:cap(e.Body)])
}

// spoil writes over a body, and behind its end.
func spoil(e api.Envelope) {
	b := e.Body[:cap(e.Body)]
	for i := range b {
		b[i] = '!'
	}
}

// spoilCert writes over all that a certificate holds, and behind the end of its votes.
func spoilCert(c api.Cert) {
	spoil(c.Pre)
	l := c.Votes[:cap(c.Votes)]
	for i, e := range l {
		spoil(e)
		l[i] = api.Envelope{Signer: -7, Body: []byte("!")}
	}
}
