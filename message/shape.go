package message

import (
	"math"

	"quaestor/api"
)

// lastNumber is the greatest number that a message may have.
const lastNumber = 1 << 40

// voters is how many replicas there are at most: so many envelopes, each by another one, a message or a certificate may bring along.
const voters = 3*api.MaxF + 1

// bounds are what a number may be, or how long a row or a list. A field that does not count has the zero bounds, which allow what is zero alone.
type bounds struct{ least, most int }

// numbersFrom and atMost are bounds of fields that count.
func numbersFrom(least int) bounds { return bounds{least, lastNumber} }

func atMost(most int) bounds { return bounds{0, most} }

// anyLength is of rows of which no bound is told.
func anyLength() bounds { return atMost(math.MaxInt) }

// count tells whether a field of these bounds counts.
func (b bounds) count() bool { return b.most > 0 }

// allow tells whether a number, or a length, may be.
func (b bounds) allow(n int) bool { return n >= b.least && n <= b.most }

// shape tells of each field of a message whether it counts, and what it may be. What a result may be is not bounded.
type shape struct {
	view, seq, client, stamp bounds
	digest, data             bounds
	result                   bool
	batch, pres, certs       bounds
}

// shapeOf tells the shape of a kind, and whether there is that kind. One that has all fields of the next one, and more, falls through to it.
func shapeOf(kind int) (shape, bool) {
	var s shape
	switch kind {
	case api.MsgPrePrepare:
		s.batch = atMost(api.MaxBatch)
		fallthrough
	case api.MsgPrepare, api.MsgCommit:
		s.view = numbersFrom(0)
		fallthrough
	case api.MsgCheckpoint:
		s.seq, s.digest = numbersFrom(1), anyLength()
	case api.MsgRequest:
		s.client, s.stamp, s.data = numbersFrom(0), numbersFrom(1), atMost(api.MaxOp)
	case api.MsgReply:
		s.view, s.client, s.stamp, s.result = numbersFrom(0), numbersFrom(0), numbersFrom(1), true
	case api.MsgViewChange:
		s.view, s.seq, s.batch, s.certs = numbersFrom(1), numbersFrom(0), atMost(voters), atMost(api.Window)
	case api.MsgNewView:
		s.view, s.batch, s.pres = numbersFrom(1), atMost(voters), atMost(api.Window)
	case api.MsgStatus:
		s.seq = numbersFrom(0)
	case api.MsgProof:
		s.certs = bounds{1, 1}
	case api.MsgSnapshot:
		s.seq, s.data, s.batch = numbersFrom(1), anyLength(), atMost(voters)
	default:
		return shape{}, false
	}
	return s, true
}

// fits tells whether all fields of a message are as the shape says.
func (s shape) fits(m api.Message) bool {
	return s.view.allow(m.View) && s.seq.allow(m.Seq) && s.client.allow(m.Client) && s.stamp.allow(m.Stamp) &&
		s.digest.allow(len(m.Digest)) && s.data.allow(len(m.Data)) &&
		(s.result || m.Result == api.Result{}) &&
		each(m.Batch, s.batch, wellEnvelope) && each(m.Pres, s.pres, wellEnvelope) && each(m.Certs, s.certs, wellCert)
}

// each tells whether a list is within its bounds, and all that stands in it is well. A list that is too long is not gone over.
func each[T any](l []T, within bounds, well func(T) bool) bool {
	if !within.allow(len(l)) {
		return false
	}
	for _, x := range l {
		if !well(x) {
			return false
		}
	}
	return true
}

// wellEnvelope asks of the signer, which is a number like others; the body may be anything.
func wellEnvelope(e api.Envelope) bool {
	return numbersFrom(0).allow(e.Signer)
}

func wellCert(c api.Cert) bool {
	return wellEnvelope(c.Pre) && each(c.Votes, atMost(voters), wellEnvelope)
}
