package message

import (
	"slices"

	"quaestor/api"
	"quaestor/wire"
)

// putMessage puts the fields that count, in the order in which all kinds have them.
func putMessage(m api.Message) []byte {
	s, _ := shapeOf(m.Kind)
	return slices.Concat(
		putInt(m.Kind),
		s.view.putInt(m.View),
		s.seq.putInt(m.Seq),
		s.client.putInt(m.Client),
		s.stamp.putInt(m.Stamp),
		s.digest.putBytes([]byte(m.Digest)),
		s.data.putBytes(m.Data),
		s.putResult(m.Result),
		putList(m.Batch, s.batch, putEnvelope),
		putList(m.Pres, s.pres, putEnvelope),
		putList(m.Certs, s.certs, putCert),
	)
}

// getMessage is putMessage's other way; of an unknown kind it reads the kind alone. Whether what it reads is well is to be asked: no more is read of a list than there may be, but of numbers any.
func getMessage(from *wire.Reader) api.Message {
	kind := getInt(from)
	s, _ := shapeOf(kind)
	return api.Message{
		Kind:   kind,
		View:   s.view.getInt(from),
		Seq:    s.seq.getInt(from),
		Client: s.client.getInt(from),
		Stamp:  s.stamp.getInt(from),
		Digest: api.Digest(s.digest.getBytes(from)),
		Data:   s.data.getBytes(from),
		Result: s.getResult(from),
		Batch:  getList(from, s.batch, getEnvelope),
		Pres:   getList(from, s.pres, getEnvelope),
		Certs:  getList(from, s.certs, getCert),
	}
}

// putInt, and the others here that are asked of bounds or of a shape, put and get nothing of a field that does not count.
func (b bounds) putInt(n int) []byte {
	if !b.count() {
		return nil
	}
	return putInt(n)
}

func (b bounds) getInt(from *wire.Reader) int {
	if !b.count() {
		return 0
	}
	return getInt(from)
}

func (b bounds) putBytes(x []byte) []byte {
	if !b.count() {
		return nil
	}
	return wire.PutBytes(nil, x)
}

func (b bounds) getBytes(from *wire.Reader) []byte {
	if !b.count() {
		return nil
	}
	return from.Bytes(b.most)
}

func (s shape) putResult(r api.Result) []byte {
	if !s.result {
		return nil
	}
	return append(putInt(int(r.Code)), putInt(r.Stage)...)
}

func (s shape) getResult(from *wire.Reader) api.Result {
	if !s.result {
		return api.Result{}
	}
	return api.Result{Code: api.Errno(getInt(from)), Stage: getInt(from)}
}

// putList puts a list with what puts one of its elements.
func putList[T any](l []T, within bounds, put func(T) []byte) []byte {
	if !within.count() {
		return nil
	}
	b := wire.PutCount(nil, len(l))
	for _, x := range l {
		b = append(b, put(x)...)
	}
	return b
}

func getList[T any](from *wire.Reader, within bounds, get func(*wire.Reader) T) []T {
	if !within.count() {
		return nil
	}
	var l []T
	for range from.Count(within.most) {
		l = append(l, get(from))
	}
	return l
}

func putEnvelope(e api.Envelope) []byte {
	return append(putInt(e.Signer), wire.PutBytes(nil, e.Body)...)
}

func getEnvelope(from *wire.Reader) api.Envelope {
	return api.Envelope{Signer: getInt(from), Body: from.Bytes(from.Left())}
}

func putCert(c api.Cert) []byte {
	return append(putEnvelope(c.Pre), putList(c.Votes, atMost(voters), putEnvelope)...)
}

func getCert(from *wire.Reader) api.Cert {
	return api.Cert{Pre: getEnvelope(from), Votes: getList(from, atMost(voters), getEnvelope)}
}

func putInt(n int) []byte {
	return wire.PutInt(nil, int64(n))
}

func getInt(from *wire.Reader) int {
	return int(from.Int())
}
