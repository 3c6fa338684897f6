package change_test

import (
	"bytes"
	"fmt"
	"math"
	"slices"
	"strings"
	"testing"

	"quaestor/api"
	"quaestor/authn"
	"quaestor/message"
)

// top is the greatest number that a message may have; clients is how many each authority here has.
const (
	top     = 1 << 40
	clients = 3
)

// world is a test, and an authority by which all in it sign.
type world struct {
	testing.TB
	*authn.Authority
}

func newWorld(t testing.TB, f int) world { return world{t, authn.New(f, clients)} }

// says signs a message, which must be well.
func (w world) says(signer int, m api.Message) api.Envelope {
	w.Helper()
	body := message.Encode(m)
	if len(body) == 0 {
		w.Fatalf("%s is not well", tell(m))
	}
	e, err := w.Sign(signer, body)
	if err != api.OK {
		w.Fatalf("%d can't sign: %d", signer, err)
	}
	return e
}

// claims is a message that nobody signs.
func (w world) claims(signer int, m api.Message) api.Envelope {
	w.Helper()
	e := api.Envelope{Signer: signer, Body: message.Encode(m)}
	if len(e.Body) == 0 || w.Known(signer) && w.Check(e) == api.OK {
		w.Fatalf("%s is not well, or was signed by %d", tell(m), signer)
	}
	return e
}

// requests are n, of clients that go round; which says whose batch it is.
func (w world) requests(which, n int) []api.Envelope {
	w.Helper()
	var l []api.Envelope
	for i := range n {
		client := api.ClientBase + i%clients
		l = append(l, w.says(client, api.Message{Kind: api.MsgRequest, Client: client, Stamp: 1 + i, Data: fmt.Append(nil, which)}))
	}
	return l
}

// proposal is a pre-prepare of such a batch.
func proposal(view, seq int, batch []api.Envelope) api.Message {
	return api.Message{Kind: api.MsgPrePrepare, View: view, Seq: seq, Digest: message.Batch(batch), Batch: batch}
}

// paper is a certificate that holds: of a view and a number, with a batch of n requests of those that which names.
type paper struct{ view, seq, which, n int }

// pre is its pre-prepare.
func (w world) pre(p paper) api.Message {
	w.Helper()
	return proposal(p.view, p.seq, w.requests(p.which, p.n))
}

// votes are of a kind for a pre-prepare, one of each signer.
func (w world) votes(kind int, pre api.Message, signers ...int) []api.Envelope {
	w.Helper()
	var l []api.Envelope
	for _, s := range signers {
		l = append(l, w.says(s, api.Message{Kind: kind, View: pre.View, Seq: pre.Seq, Digest: pre.Digest}))
	}
	return l
}

// backups are the replicas but the primary of a view.
func (w world) backups(view int) []int { return upTo(w.N(), w.Primary(view)) }

// cert makes the certificate, with as many prepares as are enough.
func (w world) cert(p paper) api.Cert {
	w.Helper()
	pre := w.pre(p)
	return api.Cert{Pre: w.says(w.Primary(p.view), pre), Votes: w.votes(api.MsgPrepare, pre, w.backups(p.view)[:2*w.F()]...)}
}

func (w world) certs(l []paper) []api.Cert {
	w.Helper()
	var all []api.Cert
	for _, p := range l {
		all = append(all, w.cert(p))
	}
	return all
}

// checkpoints are of a number and a digest, one of each signer.
func (w world) checkpoints(seq int, digest api.Digest, signers ...int) []api.Envelope {
	w.Helper()
	return w.votes(api.MsgCheckpoint, api.Message{Seq: seq, Digest: digest}, signers...)
}

// stable are checkpoints that are enough; of number 0 none are.
func (w world) stable(seq int) []api.Envelope {
	w.Helper()
	if seq == 0 {
		return nil
	}
	return w.checkpoints(seq, "state", upTo(w.Quorum())...)
}

// brought is a view-change that holds, of a checkpoint and certificates.
func (w world) brought(view, seq int, l ...paper) api.Message {
	w.Helper()
	return api.Message{Kind: api.MsgViewChange, View: view, Seq: seq, Batch: w.stable(seq), Certs: w.certs(l)}
}

// planned are the envelopes of a plan, by a signer.
func (w world) planned(signer int, plan []api.Message) []api.Envelope {
	w.Helper()
	var l []api.Envelope
	for _, pre := range plan {
		l = append(l, w.says(signer, pre))
	}
	return l
}

// upTo are the numbers below n, but for some.
func upTo(n int, without ...int) []int {
	var l []int
	for i := range n {
		if !slices.Contains(without, i) {
			l = append(l, i)
		}
	}
	return l
}

// messages are one of each kind, all of them well.
func messages() []api.Message {
	return []api.Message{
		{Kind: api.MsgRequest, Client: 1000, Stamp: 1},
		proposal(0, 1, nil),
		{Kind: api.MsgPrepare, Seq: 1, Digest: "d"},
		{Kind: api.MsgCommit, Seq: 1, Digest: "d"},
		{Kind: api.MsgCheckpoint, Seq: 4, Digest: "d"},
		{Kind: api.MsgViewChange, View: 1},
		{Kind: api.MsgNewView, View: 1},
		{Kind: api.MsgReply, Client: 1000, Stamp: 1},
		{Kind: api.MsgStatus},
		{Kind: api.MsgProof, Certs: make([]api.Cert, 1)},
		{Kind: api.MsgSnapshot, Seq: 4},
	}
}

// unlike are envelopes that hold nothing of a kind: all other kinds', signed by somebody, and bytes that are no message.
func (w world) unlike(signer, kind int) []api.Envelope {
	w.Helper()
	var l []api.Envelope
	for _, m := range messages() {
		if m.Kind != kind {
			l = append(l, w.says(signer, m))
			continue
		}
		body := append(message.Encode(m), 0)
		for _, b := range [][]byte{nil, {0}, body, body[:len(body)-2]} {
			e, _ := w.Sign(signer, b)
			l = append(l, e)
		}
	}
	return l
}

// quiet holds that what is called signs nothing.
func (w world) quiet(what string, call func()) {
	w.Helper()
	signed := w.Signed()
	call()
	if w.Signed() != signed {
		w.Errorf("%s: %d are signed, not %d", what, w.Signed(), signed)
	}
}

// hold holds what was answered: a message, or beside an error none (R2).
func (w world) hold(what string, got api.Message, err api.Errno, want api.Message, wantErr api.Errno) {
	w.Helper()
	if wantErr != api.OK {
		want = api.Message{}
	}
	if err != wantErr || !same(got, want) {
		w.Errorf("%s: %s, %d, want %s, %d", what, tell(got), err, tell(want), wantErr)
	}
}

// holdPlan holds what Plan told.
func (w world) holdPlan(what string, low int, got []api.Message, wantLow int, want []api.Message) {
	w.Helper()
	if low != wantLow || !slices.EqualFunc(got, want, same) {
		w.Errorf("%s: low %d and %s, want %d and %s", what, low, tells(got), wantLow, tells(want))
	}
}

// tell tells a message, shortly, without bytes that cannot be shown.
func tell(m api.Message) string {
	return fmt.Sprintf("%.200q", fmt.Sprintf("%+v", m))
}

func tells(l []api.Message) string {
	var all []string
	for _, m := range l {
		all = append(all, fmt.Sprintf("%d/%d %d requests %.20q", m.View, m.Seq, len(m.Batch), string(m.Digest)))
	}
	return "[" + strings.Join(all, "; ") + "]"
}

// ints are numbers that a view, a number or a signer may be, or none of them.
func ints() []int {
	return []int{math.MinInt, math.MinInt + 1, -1 << 40, -1 << 32, -9, -8, -7, -2, -1, 0, 1, 2, 3, 4, 5, 8, 9, 1000, 1 << 31, 1 << 32, top - 8, top - 1, top, top + 1, math.MaxInt - 8, math.MaxInt - 7, math.MaxInt - 1, math.MaxInt}
}

// same holds two messages against each other.
func same(a, b api.Message) bool {
	return a.Kind == b.Kind && a.View == b.View && a.Seq == b.Seq && a.Client == b.Client && a.Stamp == b.Stamp &&
		a.Digest == b.Digest && bytes.Equal(a.Data, b.Data) && a.Result == b.Result &&
		sameList(a.Batch, b.Batch) && sameList(a.Pres, b.Pres) && slices.EqualFunc(a.Certs, b.Certs, sameCert)
}

func sameList(a, b []api.Envelope) bool { return slices.EqualFunc(a, b, sameEnvelope) }

func sameEnvelope(a, b api.Envelope) bool { return a.Signer == b.Signer && bytes.Equal(a.Body, b.Body) }

func sameCert(a, b api.Cert) bool { return sameEnvelope(a.Pre, b.Pre) && sameList(a.Votes, b.Votes) }

// fill writes over a row, and behind its end.
func fill(x []byte) {
	x = x[:cap(x)]
	for i := range x {
		x[i] = '!'
	}
}

// spoil writes over all that a message holds, and behind the ends of its lists.
func spoil(m api.Message) {
	fill(m.Data)
	spoilList(m.Batch)
	spoilList(m.Pres)
	certs := m.Certs[:cap(m.Certs)]
	for i, c := range certs {
		fill(c.Pre.Body)
		spoilList(c.Votes)
		certs[i] = api.Cert{Pre: api.Envelope{Signer: -7}}
	}
}

func spoilList(l []api.Envelope) {
	l = l[:cap(l)]
	for i, e := range l {
		fill(e.Body)
		l[i] = api.Envelope{Signer: -7, Body: []byte("!")}
	}
}

// loose is a message behind whose lists' ends, and bodies' ends, other things stand.
func loose(m api.Message) api.Message {
	m.Batch, m.Pres = looseList(m.Batch), looseList(m.Pres)
	var certs []api.Cert
	for _, c := range m.Certs {
		certs = append(certs, api.Cert{Pre: looseEnvelope(c.Pre), Votes: looseList(c.Votes)})
	}
	m.Certs = append(certs, api.Cert{Pre: api.Envelope{Signer: 5, Body: []byte("behind")}})[:len(certs)]
	return m
}

func looseEnvelope(e api.Envelope) api.Envelope {
	return api.Envelope{Signer: e.Signer, Body: append(bytes.Clone(e.Body), "behind"...)[:len(e.Body)]}
}

func looseList(l []api.Envelope) []api.Envelope {
	var all []api.Envelope
	for _, e := range l {
		all = append(all, looseEnvelope(e))
	}
	return append(all, api.Envelope{Signer: 5, Body: []byte("behind")}, api.Envelope{Signer: 6})[:len(l)]
}

// whole tells all that a message holds, behind the ends of its lists and bodies too.
func whole(m api.Message) string {
	var s strings.Builder
	fmt.Fprintf(&s, "%d %d %d %d %d %q %q", m.Kind, m.View, m.Seq, m.Client, m.Stamp, m.Digest, m.Data[:cap(m.Data)])
	wholeList(&s, m.Batch)
	wholeList(&s, m.Pres)
	for _, c := range m.Certs[:cap(m.Certs)] {
		wholeList(&s, []api.Envelope{c.Pre})
		wholeList(&s, c.Votes)
	}
	return s.String()
}

func wholeList(s *strings.Builder, l []api.Envelope) {
	s.WriteByte('[')
	for _, e := range l[:cap(l)] {
		fmt.Fprintf(s, " %d %q", e.Signer, e.Body[:cap(e.Body)])
	}
	s.WriteByte(']')
}

// wholes tells of messages all that they hold, and what stands behind them.
func wholes(l []api.Message) string {
	var s strings.Builder
	for _, m := range l[:cap(l)] {
		s.WriteString(whole(m))
	}
	return s.String()
}
