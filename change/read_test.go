package change_test

import (
	"fmt"
	"slices"
	"testing"

	"quaestor/api"
	"quaestor/change"
	"quaestor/message"
)

// reads holds what Read tells of an envelope.
func (w world) reads(what string, e api.Envelope, want api.Message, wantErr api.Errno) {
	w.Helper()
	w.quiet(what, func() {
		m, err := change.Read(w.Authority, e)
		w.hold(what, m, err, want, wantErr)
	})
}

// TestRead is of promise 15.1: view-changes of each replica, of checkpoints and views low and high, with certificates of each set of numbers within the window.
func TestRead(t *testing.T) {
	for f := range api.MaxF + 1 {
		w := newWorld(t, f)
		for _, seq := range []int{0, 4, 8, 1 << 32} {
			for set := range 1 << api.Window {
				view := 1 + set%5
				var l []paper
				for i := range api.Window {
					if set&(1<<i) != 0 {
						l = append(l, paper{view: (set + i) % view, seq: seq + 1 + i, which: i, n: i % (api.MaxBatch + 1)})
					}
				}
				m := w.brought(view, seq, l...)
				w.reads(fmt.Sprintf("F %d, %d, set %b", f, seq, set), w.says(set%w.N(), m), m, api.OK)
			}
		}
	}
}

// TestReadAtEnds is of promise 15.1: the greatest numbers and views that a message may have, and more votes than are needed.
func TestReadAtEnds(t *testing.T) {
	for f := range api.MaxF + 1 {
		w := newWorld(t, f)
		for _, m := range []api.Message{
			w.brought(top, 0, paper{view: top - 1, seq: 1}),
			w.brought(top, 1, paper{view: top - 1, seq: 2}, paper{view: 0, seq: 9}),
			w.brought(top-1, top-8, paper{view: top - 2, seq: top - 7}, paper{view: top - 3, seq: top}),
			w.brought(1, top-1, paper{seq: top}),
			w.brought(1, top),
		} {
			w.reads(fmt.Sprintf("F %d, view %d, %d", f, m.View, m.Seq), w.says(0, m), m, api.OK)
		}
		all := w.brought(3, 4, paper{view: 2, seq: 5})
		all.Batch = w.checkpoints(4, "", upTo(w.N())...)
		all.Certs[0].Votes = w.votes(api.MsgPrepare, w.pre(paper{view: 2, seq: 5}), w.backups(2)...)
		w.reads(fmt.Sprintf("F %d, all votes", f), w.says(w.N()-1, all), all, api.OK)
	}
}

// unread are faults of a view-change's envelope, with the errors that are told ahead of any of what it brings along.
func (w world) unread(m api.Message) map[api.Errno][]api.Envelope {
	w.Helper()
	l := map[api.Errno][]api.Envelope{
		api.ErrSigned:  {w.claims(2, m), w.claims(1001, m)},
		api.ErrMessage: append(w.unlike(1, api.MsgViewChange), append(w.unlike(1001, api.MsgViewChange), w.says(1000, m), w.says(1002, m))...),
	}
	for _, s := range []int{-1, w.N(), 999, api.ClientBase + clients, 1 << 40} {
		l[api.ErrSigner] = append(l[api.ErrSigner], api.Envelope{Signer: s, Body: message.Encode(m)})
	}
	return l
}

// TestReadUnread is of promise 15.1: who says it, and that it is one, are asked first, whether what it brings along is proved or not.
func TestReadUnread(t *testing.T) {
	w := newWorld(t, 1)
	right, wrong := w.brought(3, 4, paper{view: 2, seq: 5}), w.brought(3, 4, paper{view: 3, seq: 13})
	wrong.Batch = nil
	for _, m := range []api.Message{right, wrong} {
		for want, l := range w.unread(m) {
			for i, e := range l {
				w.reads(fmt.Sprintf("%d of those of error %d", i, want), e, api.Message{}, want)
			}
		}
	}
	w.reads("proved", w.says(0, right), right, api.OK)
	w.reads("not proved", w.says(0, wrong), api.Message{}, api.ErrProof)
}

// unstable are checkpoint votes that prove nothing for number 4.
func (w world) unstable() map[string][]api.Envelope {
	w.Helper()
	right := w.stable(4)
	l := map[string][]api.Envelope{
		"none":               nil,
		"one missing":        right[1:],
		"of another number":  w.stable(5),
		"of another state":   append(slices.Clone(right[1:]), w.checkpoints(4, "other", w.N()-1)...),
		"by one twice":       append(slices.Clone(right), right[0]),
		"by a client":        append(slices.Clone(right), w.checkpoints(4, "state", 1000)...),
		"by a stranger":      append(slices.Clone(right), api.Envelope{Signer: 9, Body: right[0].Body}),
		"not signed":         append(slices.Clone(right), api.Envelope{Signer: w.N() - 1, Body: right[0].Body}),
		"one that is a vote": append(slices.Clone(right), w.votes(api.MsgCommit, api.Message{Seq: 4, Digest: "state"}, w.N()-1)...),
		"no messages":        make([]api.Envelope, w.Quorum()),
	}
	return l
}

// TestReadStable is of promise 15.1: a checkpoint that is not proved is ErrProof, with certificates and without.
func TestReadStable(t *testing.T) {
	for f := 1; f <= api.MaxF; f++ {
		w := newWorld(t, f)
		for what, votes := range w.unstable() {
			for _, m := range []api.Message{w.brought(1, 4), w.brought(1, 4, paper{seq: 5})} {
				m.Batch = votes
				w.reads("checkpoints "+what, w.says(1, m), api.Message{}, api.ErrProof)
			}
		}
		m := w.brought(1, 0, paper{seq: 5})
		for n := 1; n <= w.N(); n++ {
			m.Batch = w.checkpoints(4, "state", upTo(n)...)
			w.reads(fmt.Sprintf("%d checkpoints of number 0", n), w.says(1, m), api.Message{}, api.ErrProof)
		}
	}
}

// unprepared are certificates that prove nothing for number seq in view 2.
func (w world) unprepared(seq int) map[string]api.Cert {
	w.Helper()
	p := paper{view: 2, seq: seq, which: 5, n: 2}
	pre, signer := w.pre(p), w.Primary(2)
	l := map[string]api.Cert{}
	put := func(what string, change func(c *api.Cert)) {
		c := w.cert(p)
		c.Votes = slices.Clone(c.Votes)
		change(&c)
		l[what] = c
	}
	put("of nothing", func(c *api.Cert) { *c = api.Cert{} })
	put("without votes", func(c *api.Cert) { c.Votes = nil })
	put("one vote missing", func(c *api.Cert) { c.Votes = c.Votes[1:] })
	put("with the primary's vote", func(c *api.Cert) { c.Votes[0] = w.votes(api.MsgPrepare, pre, signer)[0] })
	put("with one twice", func(c *api.Cert) { c.Votes[1] = c.Votes[0] })
	put("with a client's vote", func(c *api.Cert) { c.Votes[0] = w.votes(api.MsgPrepare, pre, 1000)[0] })
	put("with a vote not signed", func(c *api.Cert) { c.Votes[0].Signer = w.backups(2)[2*w.F()] })
	put("of commits", func(c *api.Cert) { c.Votes = w.votes(api.MsgCommit, pre, w.backups(2)...) })
	put("by another one", func(c *api.Cert) { c.Pre = w.says(signer+1, pre) })
	put("not signed", func(c *api.Cert) {
		other := pre
		other.Batch = w.requests(77, 1)
		other.Digest = message.Batch(other.Batch)
		c.Pre = w.claims(signer, other)
		c.Votes = w.votes(api.MsgPrepare, other, w.backups(2)...)
	})
	put("with another digest", func(c *api.Cert) {
		other := pre
		other.Digest = message.Batch(nil)
		c.Pre = w.says(signer, other)
		c.Votes = w.votes(api.MsgPrepare, other, w.backups(2)...)
	})
	put("of a request not signed", func(c *api.Cert) {
		other := proposal(2, seq, []api.Envelope{{Signer: 1000, Body: []byte("unsigned")}})
		c.Pre = w.says(signer, other)
		c.Votes = w.votes(api.MsgPrepare, other, w.backups(2)...)
	})
	next := w.pre(paper{view: 2, seq: seq + 1, which: 5, n: 2})
	put("with a vote of the next number", func(c *api.Cert) { c.Votes[0] = w.votes(api.MsgPrepare, next, c.Votes[0].Signer)[0] })
	later := w.pre(paper{view: 3, seq: seq, which: 5, n: 2})
	put("with a vote of the next view", func(c *api.Cert) { c.Votes[0] = w.votes(api.MsgPrepare, later, c.Votes[0].Signer)[0] })
	return l
}

// TestReadPrepared is of promise 15.1: a certificate that is not prepared is ErrProof, at each place.
func TestReadPrepared(t *testing.T) {
	for f := 1; f <= api.MaxF; f++ {
		w := newWorld(t, f)
		right := w.brought(5, 4, paper{view: 2, seq: 5}, paper{view: 4, seq: 7}, paper{view: 0, seq: 12})
		w.reads("all prepared", w.says(2, right), right, api.OK)
		for place, seq := range []int{5, 7, 12} {
			for what, c := range w.unprepared(seq) {
				m := right
				m.Certs = slices.Clone(right.Certs)
				m.Certs[place] = c
				w.reads(fmt.Sprintf("F %d, certificate %d %s", f, place, what), w.says(2, m), api.Message{}, api.ErrProof)
			}
		}
	}
}

// TestReadNumbers is of promise 15.1: of any two numbers about the window's ends, certificates are proved just if they rise, from the checkpoint to the window's end.
func TestReadNumbers(t *testing.T) {
	for f := range api.MaxF + 1 {
		w := newWorld(t, f)
		for _, low := range []int{0, 4} {
			for a := 1; a <= low+api.Window+2; a++ {
				for b := 1; b <= low+api.Window+2; b++ {
					m := w.brought(2, low, paper{view: 1, seq: a}, paper{view: 0, seq: b})
					want := api.ErrProof
					if low < a && a < b && b <= low+api.Window {
						want = api.OK
					}
					w.reads(fmt.Sprintf("F %d, low %d, numbers %d, %d", f, low, a, b), w.says(0, m), m, want)
				}
			}
		}
	}
}

// TestReadViews is of promise 15.1: certificates are of views below the message's, whatever those ahead of them are of.
func TestReadViews(t *testing.T) {
	for f := range api.MaxF + 1 {
		w := newWorld(t, f)
		for view := 1; view <= 6; view++ {
			for a := range 8 {
				for b := range 8 {
					m := w.brought(view, 0, paper{view: a, seq: 1, n: 1}, paper{view: b, seq: 2})
					want := api.ErrProof
					if a < view && b < view {
						want = api.OK
					}
					w.reads(fmt.Sprintf("F %d, view %d of %d, %d", f, view, a, b), w.says(0, m), m, want)
				}
			}
		}
	}
}

// TestReadTooMany is of promise 15.1 and chapter 12: a view-change of more certificates or votes than a message may have is none.
func TestReadTooMany(t *testing.T) {
	w := newWorld(t, 0)
	var l []paper
	for i := range api.Window {
		l = append(l, paper{seq: 1 + i})
	}
	m := w.brought(1, 0, l...)
	w.reads("a full window", w.says(0, m), m, api.OK)
	m.Certs = append(m.Certs, w.cert(paper{seq: 9}))
	if message.Check(m) != api.ErrMessage {
		t.Error("nine certificates are well")
	}
}

// TestReadIsOwn is of rule R4: what was handed in is not changed, and what is answered is its own.
func TestReadIsOwn(t *testing.T) {
	w := newWorld(t, 1)
	want := w.brought(3, 4, paper{view: 2, seq: 5, n: 2}, paper{view: 0, seq: 6, n: 1})
	e := looseEnvelope(w.says(1, want))
	was := string(e.Body[:cap(e.Body)])
	first, _ := change.Read(w.Authority, e)
	second, _ := change.Read(w.Authority, e)
	if got := string(e.Body[:cap(e.Body)]); got != was {
		t.Errorf("%q was handed in, and is now %q", was, got)
	}
	spoil(first)
	fill(e.Body)
	w.hold("once more", second, api.OK, want, api.OK)
	w.reads("thereafter", w.says(1, want), want, api.OK)
}
