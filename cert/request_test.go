package cert_test

import (
	"bytes"
	"fmt"
	"strings"
	"testing"

	"quaestor/api"
	"quaestor/cert"
	"quaestor/message"
)

// request holds what Request tells.
func (w world) request(what string, e api.Envelope, want api.Request, wantErr api.Errno) {
	w.Helper()
	w.quiet(what, func() {
		if got, err := cert.Request(w.Authority, e); err != wantErr || !sameRequest(got, want) {
			w.Errorf("a request %s: %+v, %d, want %+v, %d", what, got, err, want, wantErr)
		}
	})
}

// batch holds what Batch tells.
func (w world) batch(what string, l []api.Envelope, want api.Errno) {
	w.Helper()
	w.quiet(what, func() {
		if err := cert.Batch(w.Authority, l); err != want {
			w.Errorf("a batch of %d, %s: %d, want %d", len(l), what, err, want)
		}
	})
}

// TestRequest is of promise 13.1: requests of each client, with stamps and operations to the ends of what may be.
func TestRequest(t *testing.T) {
	for f := range api.MaxF + 1 {
		w := newWorld(t, f)
		for client := api.ClientBase; client < api.ClientBase+clients; client++ {
			for _, stamp := range []int{1, 2, 1 << 32, top} {
				for _, op := range []string{"", "x", "\x00", strings.Repeat("o", api.MaxOp)} {
					w.request("that is right", w.envelope(asks(client, stamp, op)), api.Request{Client: client, Stamp: stamp, Op: []byte(op)}, api.OK)
				}
			}
		}
	}
}

// TestRequestOfReplica is of promise 13.1: its words ask that the Client is the signer, and nothing else of it.
func TestRequestOfReplica(t *testing.T) {
	w := newWorld(t, 1)
	for id := range w.N() {
		w.request("of a replica", w.envelope(asks(id, 1, "x")), api.Request{Client: id, Stamp: 1, Op: []byte("x")}, api.OK)
	}
}

// TestRequestOfFaults is of promise 13.1: each fault, and of each two the one that is told first.
func TestRequestOfFaults(t *testing.T) {
	pairs(requestFaults(), func(l ...fault) {
		w := newWorld(t, 1)
		e := w.envelope(with(w, asks(1001, 3, "x"), nobodys(), l...))
		w.request(whats(l), e, api.Request{}, l[0].err)
	})
}

// TestRequestOfSigners is of promise 13.1: of all whom a request may name, and all who sign it, just the same two are right.
func TestRequestOfSigners(t *testing.T) {
	w := newWorld(t, 1)
	known := []int{0, 1, 2, 3, 1000, 1001, 1002}
	for _, signer := range known {
		for _, client := range append(known, 4, 999, 1003, 1004, top) {
			s := asks(client, 1, "x")
			s.signer = signer
			if client == signer {
				w.request("of its own", w.envelope(s), api.Request{Client: client, Stamp: 1, Op: []byte("x")}, api.OK)
				continue
			}
			w.request(fmt.Sprintf("of %d by %d", client, signer), w.envelope(s), api.Request{}, api.ErrMessage)
		}
	}
}

// TestRequestOfStrangers is of promise 13.1: who is not known has not signed, whatever the bytes are.
func TestRequestOfStrangers(t *testing.T) {
	w := newWorld(t, 1)
	e := w.envelope(asks(1000, 1, "x"))
	for _, n := range append(ints(), 4, 999, 1003, 1008) {
		if w.Known(n) {
			continue
		}
		w.request("of a stranger", api.Envelope{Signer: n, Body: e.Body}, api.Request{}, api.ErrSigner)
		w.request("of a stranger", api.Envelope{Signer: n}, api.Request{}, api.ErrSigner)
	}
	w.request("of a right one", e, api.Request{Client: 1000, Stamp: 1, Op: []byte("x")}, api.OK)
}

// TestRequestOfBytes is of promise 13.1: bodies that are no message, signed: cut, longer, or something else; and the same, not signed.
func TestRequestOfBytes(t *testing.T) {
	w := newWorld(t, 1)
	body := message.Encode(asks(1000, 1, "abc").m)
	all := [][]byte{nil, {}, []byte("request"), append(bytes.Clone(body), body...), append([]byte{0}, body...), bytes.Repeat([]byte{0xff}, 40), make([]byte, api.MaxBody)}
	for n := range body {
		all = append(all, body[:n])
	}
	for _, x := range all {
		w.request("that nobody signed", api.Envelope{Signer: 1001, Body: x}, api.Request{}, api.ErrSigned)
		w.request("that is none", w.signs(1000, x), api.Request{}, api.ErrMessage)
	}
	long := make([]byte, api.MaxBody+1)
	w.request("that is too long to be signed", api.Envelope{Signer: 1000, Body: long}, api.Request{}, api.ErrSigned)
}

// TestRequestIsNew is of promise 13.1 (R4, R5): what is handed in stays as it is, and each answer is another one's memory, and the same.
func TestRequestIsNew(t *testing.T) {
	w := newWorld(t, 1)
	l := looseList([]api.Envelope{w.envelope(asks(1000, 1, "operation"))})
	was := whole(l)
	first, _ := cert.Request(w.Authority, l[0])
	second, _ := cert.Request(w.Authority, l[0])
	want := api.Request{Client: 1000, Stamp: 1, Op: []byte("operation")}
	if !sameRequest(first, want) || !sameRequest(second, want) || whole(l) != was {
		t.Errorf("%+v, %+v", first, second)
	}
	fill(first.Op)
	if !sameRequest(second, want) || whole(l) != was {
		t.Errorf("%+v: it goes with another answer", second)
	}
	spoil(l)
	if !sameRequest(second, want) {
		t.Errorf("%+v: it goes with what was handed in", second)
	}
}

// TestBatch is of promise 13.1: so many requests as there may be, and more.
func TestBatch(t *testing.T) {
	w := newWorld(t, 1)
	for n := range api.MaxBatch + 1 {
		w.batch("that are right", w.requests(n), api.OK)
	}
	w.batch("none", []api.Envelope{}, api.OK)
	for _, n := range []int{api.MaxBatch + 1, api.MaxBatch + 2, 100} {
		w.batch("that are right", w.requests(n), api.ErrLong)
		w.batch("that nobody signed", make([]api.Envelope, n), api.ErrLong)
	}
	w.batch("that nobody signed", make([]api.Envelope, api.MaxBatch), api.ErrSigned)
}

// TestBatchOfOne is of promise 13.1: nothing is asked of how requests stand to one another: one may stand more than once, and stamps may fall.
func TestBatchOfOne(t *testing.T) {
	w := newWorld(t, 1)
	e := w.requests(2)
	w.batch("the same", []api.Envelope{e[0], e[0], e[0], e[0]}, api.OK)
	w.batch("of a client", w.envelopes([]said{asks(1000, 3, "x"), asks(1000, 2, "x"), asks(1000, 3, "y"), asks(1000, 1, "")}), api.OK)
}

// TestBatchOfFaults is of promise 13.1: each fault at each place, and another one behind it, which is not told.
func TestBatchOfFaults(t *testing.T) {
	for _, x := range requestFaults() {
		for place := range api.MaxBatch {
			w := newWorld(t, 1)
			l := w.requests(api.MaxBatch)
			l[place] = w.envelope(with(w, asks(1001, 9, "x"), nobodys(), x))
			w.batch(fmt.Sprintf("%s at %d", x.what, place), l, x.err)
			w.batch(fmt.Sprintf("%s at %d, the last one", x.what, place), l[:place+1], x.err)
			w.batch(fmt.Sprintf("ahead of %s at %d", x.what, place), l[:place], api.OK)
			for _, y := range requestFaults() {
				if place+1 < len(l) && y.err != x.err {
					l[place+1] = w.envelope(with(w, asks(1002, 9, "x"), nobodys(), y))
					w.batch(fmt.Sprintf("%s at %d, then %s", x.what, place, y.what), l, x.err)
				}
			}
		}
	}
}

// TestBatchChangesNothing is of promise 13.1 (R4): requests stay as they are, and what stands behind them counts for nothing.
func TestBatchChangesNothing(t *testing.T) {
	w := newWorld(t, 1)
	for n := range api.MaxBatch + 2 {
		want := api.OK
		if n > api.MaxBatch {
			want = api.ErrLong
		}
		l := looseList(w.requests(n))
		was := whole(l)
		for range 2 {
			w.batch("with others behind", l, want)
		}
		if whole(l) != was {
			t.Errorf("%d requests: they are changed", n)
		}
	}
}
