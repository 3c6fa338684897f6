package cert_test

import (
	"bytes"
	"fmt"
	"math"
	"slices"
	"strings"
	"testing"

	"quaestor/api"
	"quaestor/authn"
	"quaestor/cert"
	"quaestor/message"
)

// top is the greatest number that a message may have; clients is how many each authority here has.
const (
	top     = 1 << 40
	clients = 3
)

// world is a test, and an authority by which all in it sign.
type world struct {
	testing.TB
	*authn.Authority
}

func newWorld(t testing.TB, f int) world { return world{t, authn.New(f, clients)} }

// said is a message, and whose envelope holds it. Nobody signed one that is forged; the body of one that is garbled is no message.
type said struct {
	signer          int
	m               api.Message
	forged, garbled bool
}

// envelope is signed, but if it is forged, or by somebody who cannot sign.
func (w world) envelope(s said) api.Envelope {
	w.Helper()
	body := message.Encode(s.m)
	if len(body) == 0 {
		w.Fatalf("%+v is not well", s.m)
	}
	if s.garbled {
		body = append(body, 0)
	}
	if s.forged || !w.Known(s.signer) {
		return api.Envelope{Signer: s.signer, Body: body}
	}
	return w.signs(s.signer, body)
}

func (w world) envelopes(l []said) []api.Envelope {
	w.Helper()
	var all []api.Envelope
	for _, s := range l {
		all = append(all, w.envelope(s))
	}
	return all
}

// says signs a message.
func (w world) says(signer int, m api.Message) api.Envelope {
	w.Helper()
	return w.envelope(said{signer: signer, m: m})
}

// signs signs bytes.
func (w world) signs(signer int, body []byte) api.Envelope {
	w.Helper()
	e, err := w.Sign(signer, body)
	if err != api.OK {
		w.Fatalf("%d can't sign: %d", signer, err)
	}
	return e
}

// asks is a client's request.
func asks(client, stamp int, op string) said {
	return said{signer: client, m: api.Message{Kind: api.MsgRequest, Client: client, Stamp: stamp, Data: []byte(op)}}
}

// requests are n, of clients that go round.
func (w world) requests(n int) []api.Envelope {
	w.Helper()
	var l []api.Envelope
	for i := range n {
		l = append(l, w.envelope(asks(api.ClientBase+i%clients, 1+i, strings.Repeat("op", i))))
	}
	return l
}

// proposal is a pre-prepare of such a batch.
func proposal(view, seq int, batch []api.Envelope) api.Message {
	return api.Message{Kind: api.MsgPrePrepare, View: view, Seq: seq, Digest: message.Batch(batch), Batch: batch}
}

// proposed is what a view's primary says: a pre-prepare of so many requests.
func (w world) proposed(view, seq, n int) said {
	w.Helper()
	return said{signer: w.Primary(view), m: proposal(view, seq, w.requests(n))}
}

// votes are of a kind for a pre-prepare, or a checkpoint of its number and digest: one of each signer.
func votes(kind int, pre api.Message, signers ...int) []said {
	var l []said
	for _, s := range signers {
		m := api.Message{Kind: kind, View: pre.View, Seq: pre.Seq, Digest: pre.Digest}
		if kind == api.MsgCheckpoint {
			m.View = 0
		}
		l = append(l, said{signer: s, m: m})
	}
	return l
}

// upTo are the numbers below n, but for some.
func upTo(n int, without ...int) []int {
	var l []int
	for i := range n {
		if !slices.Contains(without, i) {
			l = append(l, i)
		}
	}
	return l
}

// papers are a certificate as it is to be signed.
type papers struct {
	pre   said
	votes []said
}

// cert makes a certificate of them.
func (w world) cert(p papers) api.Cert {
	w.Helper()
	return api.Cert{Pre: w.envelope(p.pre), Votes: w.envelopes(p.votes)}
}

// proof is what a certificate proves: of which kind they are, how many are enough, whether the primary may vote, and what tells so.
type proof struct {
	name   string
	kind   int
	enough func(f int) int
	barred bool
	ask    func(a *authn.Authority, c api.Cert) (api.Message, api.Errno)
}

// proofs are those of promise 13.3.
func proofs() []proof {
	return []proof{
		{"prepared", api.MsgPrepare, func(f int) int { return 2 * f }, true, cert.Prepared},
		{"committed", api.MsgCommit, func(f int) int { return 2*f + 1 }, false, cert.Committed},
	}
}

// signers are those who may vote, by rising numbers.
func (p proof) signers(w world, view int) []int {
	if p.barred {
		return upTo(w.N(), w.Primary(view))
	}
	return upTo(w.N())
}

// right are papers of a proof that hold, with as many votes as are enough.
func (p proof) right(w world, view, seq, n int) papers {
	w.Helper()
	pre := w.proposed(view, seq, n)
	return papers{pre, votes(p.kind, pre.m, p.signers(w, view)[:p.enough(w.F())]...)}
}

// fault is what is done to what is said so that there is an error; first is the vote that stands ahead of all, or nobody's.
type fault struct {
	what string
	err  api.Errno
	do   func(w world, s *said, first said)
}

// openFaults are those of any envelope that should hold a message of a kind, in the order in which they are told.
func openFaults(kind int) []fault {
	l := []fault{
		{"a stranger's", api.ErrSigner, func(w world, s *said, _ said) { s.signer = w.N() }},
		{"of nobody", api.ErrSigner, func(w world, s *said, _ said) { s.signer = -1 }},
		{"a client's that there is not", api.ErrSigner, func(w world, s *said, _ said) { s.signer = api.ClientBase + clients }},
		{"forged", api.ErrSigned, forge},
		{"no message", api.ErrMessage, func(w world, s *said, _ said) { s.garbled = true }},
	}
	for _, m := range messages() {
		if m.Kind != kind {
			l = append(l, fault{fmt.Sprintf("of kind %d", m.Kind), api.ErrMessage, func(w world, s *said, _ said) { s.m, s.garbled = m, false }})
		}
	}
	return l
}

// forge makes what nobody signed; what is said by the first one once more was, so that it must be something else.
func forge(_ world, s *said, first said) {
	s.forged = true
	if s.signer == first.signer {
		s.m.Digest = "forged"
	}
}

// nobodys stands for the first vote where none stands ahead.
func nobodys() said { return said{signer: -7} }

// messages are one of each kind, all of them well.
func messages() []api.Message {
	return []api.Message{
		{Kind: api.MsgRequest, Client: 1000, Stamp: 1},
		proposal(0, 1, nil),
		{Kind: api.MsgPrepare, Seq: 1, Digest: "d"},
		{Kind: api.MsgCommit, Seq: 1, Digest: "d"},
		{Kind: api.MsgCheckpoint, Seq: 4, Digest: "d"},
		{Kind: api.MsgViewChange, View: 1},
		{Kind: api.MsgNewView, View: 1},
		{Kind: api.MsgReply, Client: 1000, Stamp: 1},
		{Kind: api.MsgStatus},
		{Kind: api.MsgProof, Certs: make([]api.Cert, 1)},
		{Kind: api.MsgSnapshot, Seq: 4},
	}
}

// requestFaults are those of a request, in their order.
func requestFaults() []fault {
	return append(openFaults(api.MsgRequest),
		fault{"of another client", api.ErrMessage, func(w world, s *said, _ said) { s.m.Client++ }},
		fault{"of a client, by a replica", api.ErrMessage, func(w world, s *said, _ said) { s.signer = 0 }},
		fault{"of a replica, by a client", api.ErrMessage, func(w world, s *said, _ said) { s.m.Client = 0 }},
	)
}

// preFaults are those of a pre-prepare, in their order, but for those of its requests.
func preFaults() []fault {
	return append(openFaults(api.MsgPrePrepare),
		fault{"by a client", api.ErrPrimary, func(w world, s *said, _ said) { s.signer = api.ClientBase }},
		fault{"by another one", api.ErrPrimary, func(w world, s *said, _ said) { s.signer = (s.signer + 1) % w.N() }},
		fault{"of the next view", api.ErrPrimary, func(w world, s *said, _ said) { s.m.View++ }},
		fault{"with a digest of nothing", api.ErrDigest, func(w world, s *said, _ said) { s.m.Digest = "" }},
		fault{"with another digest", api.ErrDigest, func(w world, s *said, _ said) { s.m.Digest += "x" }},
	)
}

// voteFaults are those of a vote of a proof, in their order; where it is the first one, none stands ahead of it.
func voteFaults(p proof, place int) []fault {
	l := append(openFaults(p.kind),
		fault{"by a client", api.ErrSigner, func(w world, s *said, _ said) { s.signer = api.ClientBase + 1 }},
		fault{"of the next view", api.ErrView, func(w world, s *said, _ said) { s.m.View++ }},
		fault{"of the view ahead", api.ErrView, func(w world, s *said, _ said) { s.m.View-- }},
		fault{"of the next number", api.ErrSeq, func(w world, s *said, _ said) { s.m.Seq++ }},
		fault{"of the number ahead", api.ErrSeq, func(w world, s *said, _ said) { s.m.Seq-- }},
		fault{"of something else", api.ErrDigest, func(w world, s *said, _ said) { s.m.Digest = message.Batch([]api.Envelope{{}}) }},
		fault{"of nothing", api.ErrDigest, func(w world, s *said, _ said) { s.m.Digest = "" }},
	)
	if p.barred {
		l = append(l, fault{"by the primary", api.ErrPrimary, func(w world, s *said, _ said) { s.signer = w.Primary(s.m.View) }})
	}
	return append(l, twiceFaults(place)...)
}

// checkpointFaults are those of a checkpoint, in their order; the first one says what the digest is.
func checkpointFaults(place int) []fault {
	l := append(openFaults(api.MsgCheckpoint),
		fault{"by a client", api.ErrSigner, func(w world, s *said, _ said) { s.signer = api.ClientBase + 1 }},
		fault{"of the next number", api.ErrSeq, func(w world, s *said, _ said) { s.m.Seq++ }},
		fault{"of the number ahead", api.ErrSeq, func(w world, s *said, _ said) { s.m.Seq-- }},
	)
	if place > 0 {
		l = append(l,
			fault{"of something else", api.ErrDigest, func(w world, s *said, _ said) { s.m.Digest += "x" }},
			fault{"of nothing", api.ErrDigest, func(w world, s *said, _ said) { s.m.Digest = "" }},
		)
	}
	return append(l, twiceFaults(place)...)
}

func twiceFaults(place int) []fault {
	if place == 0 {
		return nil
	}
	return []fault{{"by the first one", api.ErrTwice, func(w world, s *said, first said) { s.signer, s.forged = first.signer, first.forged }}}
}

// with is what is said with faults, of which the list has the one that is told ahead first; so that it is there whatever the others do, it is done last.
func with(w world, s, first said, l ...fault) said {
	for _, x := range slices.Backward(l) {
		x.do(w, &s, first)
	}
	return s
}

// pairs calls with each fault alone, and with each two that may be together, the first of which is told.
func pairs(l []fault, call func(l ...fault)) {
	for i, x := range l {
		call(x)
		for _, y := range l[i+1:] {
			if x.err != y.err {
				call(x, y)
			}
		}
	}
}

// whats tells what faults are.
func whats(l []fault) string {
	var all []string
	for _, x := range l {
		all = append(all, x.what)
	}
	return strings.Join(all, ", ")
}

// hold holds what was answered: a message, or beside an error none (R2).
func (w world) hold(what string, got api.Message, err api.Errno, want api.Message, wantErr api.Errno) {
	w.Helper()
	if wantErr != api.OK {
		want = api.Message{}
	}
	if err != wantErr || !same(got, want) {
		w.Errorf("%s: %s, %d, want %s, %d", what, tell(got), err, tell(want), wantErr)
	}
}

// quiet holds that what is called signs nothing.
func (w world) quiet(what string, call func()) {
	w.Helper()
	signed := w.Signed()
	call()
	if w.Signed() != signed {
		w.Errorf("%s: %d are signed, not %d", what, w.Signed(), signed)
	}
}

// tell tells a message, shortly, without bytes that cannot be shown.
func tell(m api.Message) string {
	return fmt.Sprintf("%.200q", fmt.Sprintf("%+v", m))
}

// ints are numbers that a view, a number, a kind or a signer may be, or none of them.
func ints() []int {
	return []int{math.MinInt, math.MinInt + 1, -1 << 40, -1 << 32, -2, -1, 0, 1, 2, 3, 4, 5, 1000, 1 << 31, 1 << 32, top - 1, top, top + 1, math.MaxInt - 1, math.MaxInt}
}

// same holds two messages against each other.
func same(a, b api.Message) bool {
	return a.Kind == b.Kind && a.View == b.View && a.Seq == b.Seq && a.Client == b.Client && a.Stamp == b.Stamp &&
		a.Digest == b.Digest && bytes.Equal(a.Data, b.Data) && a.Result == b.Result &&
		sameList(a.Batch, b.Batch) && sameList(a.Pres, b.Pres) && slices.EqualFunc(a.Certs, b.Certs, sameCert)
}

func sameList(a, b []api.Envelope) bool { return slices.EqualFunc(a, b, sameEnvelope) }

func sameEnvelope(a, b api.Envelope) bool { return a.Signer == b.Signer && bytes.Equal(a.Body, b.Body) }

func sameCert(a, b api.Cert) bool { return sameEnvelope(a.Pre, b.Pre) && sameList(a.Votes, b.Votes) }

func sameRequest(a, b api.Request) bool {
	return a.Client == b.Client && a.Stamp == b.Stamp && bytes.Equal(a.Op, b.Op)
}

// loose is an envelope behind whose body's end other bytes stand.
func loose(e api.Envelope) api.Envelope {
	return api.Envelope{Signer: e.Signer, Body: append(bytes.Clone(e.Body), "behind"...)[:len(e.Body)]}
}

// looseList is a list behind whose end other envelopes stand.
func looseList(l []api.Envelope) []api.Envelope {
	var all []api.Envelope
	for _, e := range l {
		all = append(all, loose(e))
	}
	return append(all, api.Envelope{Signer: 5, Body: []byte("behind")}, api.Envelope{Signer: 6})[:len(l)]
}

// whole tells all that stands in a list, behind its end and its bodies' ends too.
func whole(l []api.Envelope) string {
	var s strings.Builder
	for _, e := range l[:cap(l)] {
		fmt.Fprintf(&s, " %d %q", e.Signer, e.Body[:cap(e.Body)])
	}
	return s.String()
}

// fill writes over a row, and behind its end.
func fill(x []byte) {
	x = x[:cap(x)]
	for i := range x {
		x[i] = '!'
	}
}

// spoil writes over all that a list holds, and behind its end.
func spoil(l []api.Envelope) {
	l = l[:cap(l)]
	for i, e := range l {
		fill(e.Body)
		l[i] = api.Envelope{Signer: -7, Body: []byte("!")}
	}
}

// spoilMessage writes over all that a message's lists hold.
func spoilMessage(m api.Message) {
	fill(m.Data)
	spoil(m.Batch)
	spoil(m.Pres)
}
