package message_test

import (
	"bytes"
	"math/rand"
	"strings"
	"testing"

	"quaestor/api"
	"quaestor/message"
	"quaestor/term"
)

// near are messages that are well and close to one another: each two differ in some field, and some have the same bytes elsewhere.
func near() []api.Message {
	var all []api.Message
	for _, k := range kinds() {
		m := small(k)
		all = append(all, m)
		for _, f := range rules()[k] {
			all = append(all, nearField(m, f)...)
		}
	}
	return all
}

// nearField are messages that differ from one in one field that counts.
func nearField(m api.Message, f field) []api.Message {
	var all []api.Message
	for _, n := range []int{0, 1, 3, 4, 7, 8, 256, top} {
		if n >= f.least && n <= min(f.most, 1<<41) && (n <= 256 || number(&m, f.name) != nil) {
			next := m
			set(&next, f.name, n)
			all = append(all, next)
		}
	}
	switch f.name {
	case "digest":
		for _, d := range []api.Digest{"\x00", "e", "dde", message.Batch(nil), term.Of(8, nil), term.Of(7)} {
			next := m
			next.Digest = d
			all = append(all, next)
		}
	case "data":
		for _, x := range []string{"\x00", "\x00\x00", "y", "xxy", string(messageBytes(m))} {
			next := m
			next.Data = []byte(x)
			all = append(all, next)
		}
	case "result":
		for _, r := range []api.Result{came(1, 2), came(2, 1), came(0, -1), came(-1, 0)} {
			next := m
			next.Result = r
			all = append(all, next)
		}
	case "batch", "pres":
		for _, l := range nearLists() {
			if len(l) <= f.most {
				next := m
				*list(&next, f.name) = l
				all = append(all, next)
			}
		}
	case "certs":
		for _, l := range nearLists() {
			next := m
			next.Certs = []api.Cert{{Pre: signed(1, "p"), Votes: l}}
			all = append(all, next)
			if len(l) > 0 && f.most > 1 {
				next.Certs = []api.Cert{{Pre: signed(1, "p"), Votes: l[1:]}, {Pre: l[0]}}
				all = append(all, next)
			}
		}
	}
	return all
}

// nearLists are lists of envelopes, some of which have the same bytes one behind the other.
func nearLists() [][]api.Envelope {
	a, b := signed(1, "a"), signed(2, "b")
	within := signed(1, "a"+string(word(2))+string(row([]byte("b"))))
	return [][]api.Envelope{
		{a}, {b}, {a, b}, {b, a}, {a, a}, {b, b}, {a, a, b}, {a, b, b}, {within}, {within, a}, {a, within},
		{{}}, {{}, {}}, {{}, {}, {}}, {signed(0, "\x00")}, {signed(0, "\x00\x00")}, {signed(1, "")}, {signed(2, "a")}, {signed(1, "b"), signed(2, "a")},
		{signed(0, string(word(0)))}, {signed(0, string(word(0))+string(row(nil)))}, {signed(top, "a")},
	}
}

// TestOneRowOneMessage is of promise 12.4: messages that are not the same have not the same bytes; each is read from its own.
func TestOneRowOneMessage(t *testing.T) {
	seen := map[string]api.Message{}
	for _, m := range append(near(), wells()...) {
		x := message.Encode(m)
		if len(x) == 0 {
			t.Errorf("%s: not well", tell(m))
		}
		if got := read(t, x); !same(got, m) {
			t.Errorf("%s: %s", tell(m), tell(got))
		}
		if was, ok := seen[string(x)]; ok && !same(was, m) {
			t.Errorf("%s and %s: one row of bytes", tell(was), tell(m))
		}
		seen[string(x)] = m
	}
	if len(seen) < 300 {
		t.Errorf("%d messages: too few to tell", len(seen))
	}
}

// TestOneDigestOneList is of promise 12.4: lists of envelopes that are not the same have not the same digest.
func TestOneDigestOneList(t *testing.T) {
	lists := append(nearLists(), nil, []api.Envelope{})
	for _, x := range nearLists() {
		for _, y := range nearLists() {
			lists = append(lists, append(append([]api.Envelope{}, x...), y...))
		}
	}
	seen := map[api.Digest][]api.Envelope{}
	for _, l := range lists {
		d := message.Batch(l)
		if was, ok := seen[d]; ok && !sameList(was, l) {
			t.Errorf("%v and %v: one digest", was, l)
		}
		seen[d] = l
		for _, e := range l {
			if len(e.Body) >= len(d) {
				t.Errorf("%v: a body is not held", l)
			}
		}
	}
	if len(seen) < 200 {
		t.Errorf("%d digests: too few to tell", len(seen))
	}
}

// TestMessagesInMessages is of promise 12.4: what bodies hold stays what it is, one message within another.
func TestMessagesInMessages(t *testing.T) {
	ask := message.Encode(api.Message{Kind: api.MsgRequest, Client: 1000, Stamp: 1, Data: []byte("open")})
	asks := []api.Envelope{{Signer: 1000, Body: ask}}
	pre := message.Encode(api.Message{Kind: api.MsgPrePrepare, Seq: 1, Digest: message.Batch(asks), Batch: asks})
	vote := message.Encode(api.Message{Kind: api.MsgPrepare, Seq: 1, Digest: message.Batch(asks)})
	cert := api.Cert{Pre: api.Envelope{Signer: 0, Body: pre}, Votes: []api.Envelope{{Signer: 1, Body: vote}, {Signer: 2, Body: vote}}}
	change := message.Encode(api.Message{Kind: api.MsgViewChange, View: 1, Certs: []api.Cert{cert}})
	news := message.Encode(api.Message{Kind: api.MsgNewView, View: 1, Batch: []api.Envelope{{Signer: 3, Body: change}}, Pres: []api.Envelope{{Signer: 1, Body: pre}}})

	n := read(t, news)
	c := read(t, n.Batch[0].Body)
	p := read(t, c.Certs[0].Pre.Body)
	r := read(t, p.Batch[0].Body)
	if string(r.Data) != "open" || p.Digest != message.Batch(p.Batch) || read(t, c.Certs[0].Votes[1].Body).Digest != p.Digest {
		t.Errorf("%s, %s, %s, %s", tell(n), tell(c), tell(p), tell(r))
	}
	if !bytes.Equal(n.Pres[0].Body, pre) {
		t.Errorf("%x, want %x", n.Pres[0].Body, pre)
	}
}

// dice pick messages.
type dice struct{ *rand.Rand }

func (d dice) number(f field) int {
	return []int{f.least, f.least + 1, 2, 3, 1 << 32, top}[d.Intn(6)]
}

func (d dice) row(most int) string {
	var s strings.Builder
	for range d.Intn(min(most, 6) + 1) {
		s.WriteByte("\x00\x01a\xff"[d.Intn(4)])
	}
	return s.String()
}

func (d dice) list(most int) []api.Envelope {
	var l []api.Envelope
	for range d.Intn(most + 1) {
		l = append(l, signed(d.number(field{}), d.row(6)))
	}
	return l
}

// message picks one that is well.
func (d dice) message() api.Message {
	m := api.Message{Kind: 1 + d.Intn(11)}
	for _, f := range rules()[m.Kind] {
		switch f.name {
		case "digest":
			m.Digest = api.Digest(d.row(6))
		case "data":
			m.Data = []byte(d.row(6))
		case "result":
			m.Result = came(api.Errno(d.Intn(5)-2), d.Intn(5)-2)
		case "batch", "pres":
			*list(&m, f.name) = d.list(f.most)
		case "certs":
			for range f.least + d.Intn(f.most-f.least+1) {
				m.Certs = append(m.Certs, api.Cert{Pre: signed(d.number(field{}), d.row(6)), Votes: d.list(7)})
			}
		default:
			set(&m, f.name, d.number(f))
		}
	}
	return m
}

// TestWalkOfMessages is of promise 12.4: random messages are read as they were told, and one row of bytes is one message's.
func TestWalkOfMessages(t *testing.T) {
	d := dice{rand.New(rand.NewSource(12))}
	seen := map[string]api.Message{}
	for range 20000 {
		m := d.message()
		x := message.Encode(m)
		if !bytes.Equal(x, messageBytes(m)) {
			t.Fatalf("%s: %x", tell(m), x)
		}
		if got := read(t, x); !same(got, m) {
			t.Fatalf("%s: %s", tell(m), tell(got))
		}
		if was, ok := seen[string(x)]; ok && !same(was, m) {
			t.Fatalf("%s and %s: one row of bytes", tell(was), tell(m))
		}
		seen[string(x)] = m
	}
}

// TestWalkOfLists is of promise 12.4: random lists, as they are and changed, have one digest just if they are the same.
func TestWalkOfLists(t *testing.T) {
	d := dice{rand.New(rand.NewSource(13))}
	seen := map[api.Digest][]api.Envelope{}
	for range 20000 {
		l := d.list(3)
		g := message.Batch(l)
		if g != batch(l) {
			t.Fatalf("%v: %x", l, g)
		}
		if was, ok := seen[g]; ok && !sameList(was, l) {
			t.Fatalf("%v and %v: one digest", was, l)
		}
		seen[g] = l
	}
}

// held holds of any bytes what 12.2 says of Decode.
func held(t *testing.T, x []byte) {
	t.Helper()
	m, err := message.Decode(x)
	switch {
	case err == api.ErrForm && len(x) <= api.MaxBody && same(m, api.Message{}):
	case err == api.OK && message.Check(m) == api.OK && bytes.Equal(message.Encode(m), x) && bytes.Equal(messageBytes(m), x):
	default:
		t.Fatalf("%x: %s, %d", x, tell(m), err)
	}
}

// TestWalkOfBytes is of promise 12.2 and 12.4: bytes that are changed are refused, or are the bytes of another message.
func TestWalkOfBytes(t *testing.T) {
	d := dice{rand.New(rand.NewSource(14))}
	taken := 0
	for range 40000 {
		m := d.message()
		x := messageBytes(m)
		for range 1 + d.Intn(2) {
			x[d.Intn(len(x))] ^= 1 << d.Intn(8)
		}
		held(t, x)
		if got, err := message.Decode(x); err == api.OK {
			taken++
			if same(got, m) != bytes.Equal(x, messageBytes(m)) {
				t.Fatalf("%x and %x: one message", x, messageBytes(m))
			}
		}
	}
	if taken < 1000 {
		t.Errorf("%d taken: too few to tell", taken)
	}
}

// TestWalkOfShortRows is of promise 12.2: all rows of few bytes behind each kind.
func TestWalkOfShortRows(t *testing.T) {
	for k := range 14 {
		for a := range 256 {
			held(t, append(word(k), byte(a)))
			for b := range 3 {
				held(t, append(word(k), append(make([]byte, 7+b), byte(a))...))
				held(t, append(word(k), append(make([]byte, 7+b), byte(a), 0, 0, 0, 0)...))
				held(t, append(word(k), append(make([]byte, 15+b), byte(a), 0, 0, 0, 0)...))
			}
		}
	}
}

// FuzzDecode is of promise 12.2 and 12.4: bytes are refused, or Encode tells them of the message that is read.
func FuzzDecode(f *testing.F) {
	for _, m := range append(wells(), beyond()...) {
		if x := messageBytes(m); len(x) < 1000 {
			f.Add(x)
		}
	}
	f.Add([]byte{})
	f.Fuzz(func(t *testing.T, x []byte) { held(t, x) })
}
