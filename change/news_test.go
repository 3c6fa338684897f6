package change_test

import (
	"bytes"
	"fmt"
	"slices"
	"testing"

	"quaestor/api"
	"quaestor/change"
	"quaestor/message"
)

// news holds what News tells of an envelope.
func (w world) news(what string, e api.Envelope, want api.Message, wantLow int, wantErr api.Errno) {
	w.Helper()
	if wantErr != api.OK {
		wantLow = 0
	}
	w.quiet(what, func() {
		m, low, err := change.News(w.Authority, e)
		w.hold(what, m, err, want, wantErr)
		if low != wantLow {
			w.Errorf("%s: low %d, want %d", what, low, wantLow)
		}
	})
}

// told is a view-change, and who says it.
type told struct {
	signer int
	m      api.Message
}

// newView is a new view that holds, of these view-changes.
func (w world) newView(view int, l ...told) api.Message {
	w.Helper()
	m := api.Message{Kind: api.MsgNewView, View: view}
	var all []api.Message
	for _, x := range l {
		m.Batch = append(m.Batch, w.says(x.signer, x.m))
		all = append(all, x.m)
	}
	_, plan := change.Plan(w.Authority, view, all)
	m.Pres = w.planned(w.Primary(view), plan)
	return m
}

// lists are view-changes of as many replicas as decide, from the last one on, of which some bring something along; and the low mark that they make.
func (w world) lists(view int) ([]told, int) {
	w.Helper()
	var l []told
	for i := range w.Quorum() {
		l = append(l, told{w.N() - 1 - i, w.brought(view, 0)})
	}
	l[0].m = w.brought(view, 0, paper{view: 0, seq: 3, which: 1, n: 1}, paper{view: view - 1, seq: 5, which: 2, n: 2})
	if w.F() > 0 {
		l[1].m = w.brought(view, 4, paper{view: 0, seq: 5, which: 3, n: 1}, paper{view: view - 1, seq: 7, which: 4})
		l[2].m = w.brought(view, 1)
		return l, 4
	}
	return l, 0
}

// TestNews is of promise 15.3: new views by each primary, of a quorum and of more, in each order; and the low mark.
func TestNews(t *testing.T) {
	for f := range api.MaxF + 1 {
		w := newWorld(t, f)
		for view := 1; view <= 2*w.N(); view++ {
			l, low := w.lists(view)
			m := w.newView(view, l...)
			w.news(fmt.Sprintf("F %d, view %d", f, view), w.says(w.Primary(view), m), m, low, api.OK)
			slices.Reverse(l)
			m = w.newView(view, l...)
			w.news(fmt.Sprintf("F %d, view %d, the other way round", f, view), w.says(w.Primary(view), m), m, low, api.OK)
			for n := w.Quorum(); n < w.N(); n++ {
				l = append(l, told{n - w.Quorum(), w.brought(view, 0)})
				m = w.newView(view, l...)
				w.news(fmt.Sprintf("F %d, view %d, of %d", f, view, len(l)), w.says(w.Primary(view), m), m, low, api.OK)
			}
		}
	}
}

// TestNewsOfNothing is of promise 15.3: where nothing is brought along, nothing is proposed; a checkpoint moves the low mark.
func TestNewsOfNothing(t *testing.T) {
	for f := range api.MaxF + 1 {
		w := newWorld(t, f)
		for _, view := range []int{1, 2, 1 << 32, top} {
			for _, low := range []int{0, 4, 8, top} {
				var l []told
				for s := range w.Quorum() {
					l = append(l, told{s, w.brought(view, 0)})
				}
				l[w.Quorum()-1].m = w.brought(view, low)
				m := w.newView(view, l...)
				if len(m.Pres) > 0 {
					t.Errorf("%d are proposed", len(m.Pres))
				}
				w.news(fmt.Sprintf("view %d, low %d", view, low), w.says(w.Primary(view), m), m, low, api.OK)
			}
		}
	}
}

// TestNewsAtEnds is of promise 15.3: the greatest view and numbers.
func TestNewsAtEnds(t *testing.T) {
	for f := range api.MaxF + 1 {
		w := newWorld(t, f)
		var l []told
		for s := range w.Quorum() {
			l = append(l, told{s, w.brought(top, top-8, paper{view: top - 1 - s, seq: top - s, which: s, n: 1})})
		}
		m := w.newView(top, l...)
		if len(m.Pres) != api.Window {
			t.Errorf("%d are proposed", len(m.Pres))
		}
		w.news("at the ends", w.says(w.Primary(top), m), m, top-8, api.OK)
	}
}

// TestNewsUnread is of promise 15.3: who says it, that it is one, and that the view's primary says it, are asked first, whether what it brings along is right or not.
func TestNewsUnread(t *testing.T) {
	w := newWorld(t, 1)
	l, low := w.lists(2)
	right := w.newView(2, l...)
	few, wrong := w.newView(2, l[1:]...), w.newView(2, l[0], l[0])
	wrong.Pres = nil
	for i, m := range []api.Message{right, few, wrong} {
		what := func(s string) string { return fmt.Sprintf("new view %d %s", i, s) }
		for _, s := range []int{-1, w.N(), 999, api.ClientBase + clients, 1 << 40} {
			w.news(what("of a stranger"), api.Envelope{Signer: s, Body: message.Encode(m)}, api.Message{}, 0, api.ErrSigner)
		}
		for _, s := range []int{0, 1, 2, 3, 1000, 1002} {
			w.news(what("not signed"), w.claims(s, m), api.Message{}, 0, api.ErrSigned)
		}
		for _, s := range []int{0, 1, 3, 1000, 1002} {
			w.news(what("by another one"), w.says(s, m), api.Message{}, 0, api.ErrPrimary)
		}
	}
	for _, s := range []int{0, 1, 2, 3, 1000, 1002} {
		for i, e := range w.unlike(s, api.MsgNewView) {
			w.news(fmt.Sprintf("no new view, %d", i), e, api.Message{}, 0, api.ErrMessage)
		}
	}
	w.news("right", w.says(2, right), right, low, api.OK)
	w.news("too few", w.says(2, few), api.Message{}, 0, api.ErrQuorum)
	w.news("wrong", w.says(2, wrong), api.Message{}, 0, api.ErrTwice)
}

// fault is a view-change's envelope that has no place in a new view of view 2, and why.
type fault struct {
	what string
	err  api.Errno
	e    api.Envelope
}

// faults are those of an envelope in the order in which they are told, of which each has those behind it as well, as far as may be. The last one is by a replica that has told already.
func (w world) faults(signer, twice int) []fault {
	w.Helper()
	unproved := w.brought(3, 4, paper{view: 2, seq: 5})
	unproved.Batch = nil
	unsaid := w.brought(3, 4, paper{view: 2, seq: 6})
	unsaid.Batch = nil
	alone := w.brought(2, 4, paper{view: 1, seq: 5})
	alone.Certs[0].Votes = nil
	other := w.brought(3, 4)
	return []fault{
		{"of a stranger", api.ErrSigner, api.Envelope{Signer: w.N(), Body: message.Encode(unproved)}},
		{"of nobody", api.ErrSigner, api.Envelope{Signer: 1 << 40, Body: []byte("x")}},
		{"not signed, by another one", api.ErrSigned, w.claims(signer, unsaid)},
		{"not signed, twice", api.ErrSigned, w.claims(twice, unsaid)},
		{"of a client", api.ErrMessage, w.says(1000, unproved)},
		{"of a client, for this view", api.ErrMessage, w.says(1000, w.brought(2, 0))},
		{"of another kind", api.ErrMessage, w.says(twice, messages()[6])},
		{"not proved, for another view", api.ErrProof, w.says(twice, unproved)},
		{"not proved, for this one", api.ErrProof, w.says(signer, alone)},
		{"for the next view, twice", api.ErrView, w.says(twice, other)},
		{"for the next view", api.ErrView, w.says(signer, other)},
		{"for the view ahead", api.ErrView, w.says(signer, w.brought(1, 0))},
		{"for the view N on", api.ErrView, w.says(signer, w.brought(2+w.N(), 0))},
		{"twice, another one", api.ErrTwice, w.says(twice, w.brought(2, 5))},
		{"twice, the same", api.ErrTwice, w.says(twice, w.brought(2, 0))},
	}
}

// TestNewsFaults is of promise 15.3: each fault of an envelope, at each place but the first, alone, and with each other one behind it, whether the new view is of enough view-changes or not.
func TestNewsFaults(t *testing.T) {
	for f := 1; f <= api.MaxF; f++ {
		w := newWorld(t, f)
		var l []told
		for s := range w.N() {
			l = append(l, told{s, w.brought(2, 0)})
		}
		for place := 1; place < w.N(); place++ {
			right := w.newView(2, l[:w.N()]...)
			all := w.faults(place, 0)
			for i, x := range all {
				one := right
				one.Batch = slices.Clone(right.Batch)
				one.Batch[place] = x.e
				w.news(fmt.Sprintf("F %d, %d %s", f, place, x.what), w.says(2, one), api.Message{}, 0, x.err)
				few := one
				few.Batch = one.Batch[:place+1]
				w.news(fmt.Sprintf("F %d, %d %s, the last one", f, place, x.what), w.says(2, few), api.Message{}, 0, x.err)
				two := one
				two.Batch = slices.Clone(one.Batch)
				for j := place + 1; j < w.N(); j++ {
					two.Batch[j] = all[(i+j)%len(all)].e
				}
				w.news(fmt.Sprintf("F %d, %d %s, first", f, place, x.what), w.says(2, two), api.Message{}, 0, x.err)
			}
		}
	}
}

// TestNewsFirst is of promise 15.3: faults of the first envelope, ahead of which none stands.
func TestNewsFirst(t *testing.T) {
	w := newWorld(t, 1)
	for _, x := range w.faults(1, 0) {
		want := x.err
		if want == api.ErrTwice { // alone it is right, but too few
			want = api.ErrQuorum
		}
		w.news("the first one "+x.what, w.says(2, api.Message{Kind: api.MsgNewView, View: 2, Batch: []api.Envelope{x.e}}), api.Message{}, 0, want)
	}
}

// TestNewsQuorum is of promise 15.3: each set of replicas, just how many they are decides; what is proposed is asked thereafter.
func TestNewsQuorum(t *testing.T) {
	for f := range api.MaxF + 1 {
		w := newWorld(t, f)
		for set := range 1 << w.N() {
			var l []told
			for s := range w.N() {
				if set&(1<<s) != 0 {
					l = append(l, told{s, w.brought(1, 0, paper{seq: 1, n: 1})})
				}
			}
			right := w.newView(1, l...)
			wrong := right
			wrong.Pres = w.planned(w.Primary(1), []api.Message{nothing(1, 1), nothing(1, 2)})
			want, wantWrong := api.OK, api.ErrProof
			if len(l) < 2*f+1 {
				want, wantWrong = api.ErrQuorum, api.ErrQuorum
			}
			w.news(fmt.Sprintf("F %d, set %b", f, set), w.says(w.Primary(1), right), right, 0, want)
			w.news(fmt.Sprintf("F %d, set %b, wrong", f, set), w.says(w.Primary(1), wrong), api.Message{}, 0, wantWrong)
		}
	}
}

// TestNewsPlan is of promise 15.3: Pres that are not the plan's, one by one, by the primary and signed.
func TestNewsPlan(t *testing.T) {
	for f := range api.MaxF + 1 {
		w := newWorld(t, f)
		const view = 15 // the primary is 0, 3 or 1
		l, low := w.lists(view)
		right := w.newView(view, l...)
		w.news(fmt.Sprintf("F %d, right", f), w.says(w.Primary(view), right), right, low, api.OK)
		if len(right.Pres) < 3 {
			t.Errorf("F %d: %d are proposed", f, len(right.Pres))
		}
		refused := func(what string, pres []api.Envelope) {
			t.Helper()
			m := right
			m.Pres = pres
			w.news(fmt.Sprintf("F %d, %s", f, what), w.says(w.Primary(view), m), api.Message{}, 0, api.ErrProof)
		}
		refused("none", nil)
		refused("the first one missing", right.Pres[1:])
		refused("the last one missing", right.Pres[:len(right.Pres)-1])
		refused("one more", append(slices.Clone(right.Pres), w.says(w.Primary(view), nothing(view, low+1+len(right.Pres)))))
		refused("the last one twice", append(slices.Clone(right.Pres), right.Pres[len(right.Pres)-1]))
		for i := range right.Pres {
			for what, e := range w.otherThan(right.Pres[i], view) {
				pres := slices.Clone(right.Pres)
				pres[i] = e
				refused(fmt.Sprintf("number %d %s", i, what), pres)
			}
			if i > 0 {
				pres := slices.Clone(right.Pres)
				pres[i], pres[i-1] = pres[i-1], pres[i]
				refused(fmt.Sprintf("number %d ahead", i), pres)
			}
		}
	}
}

// otherThan are envelopes that are not the one that the plan has.
func (w world) otherThan(e api.Envelope, view int) map[string]api.Envelope {
	w.Helper()
	primary := w.Primary(view)
	l := map[string]api.Envelope{
		"of nothing":  {Signer: primary},
		"by a client": {Signer: 1000, Body: e.Body},
	}
	client, _ := w.Sign(1001, e.Body)
	l["signed by a client"] = client
	for s := range w.N() {
		if s != primary {
			l[fmt.Sprintf("by %d", s)] = api.Envelope{Signer: s, Body: e.Body}
			other, _ := w.Sign(s, e.Body)
			l[fmt.Sprintf("signed by %d", s)] = other
		}
	}
	put := func(what string, change func(m *api.Message)) {
		m, _ := message.Decode(e.Body)
		change(&m)
		l[what] = w.says(primary, m)
	}
	put("of the next view", func(m *api.Message) { m.View++ })
	put("of the view ahead", func(m *api.Message) { m.View-- })
	put("of the next number", func(m *api.Message) { m.Seq++ })
	put("of the number ahead", func(m *api.Message) { m.Seq += 8 })
	put("with another digest", func(m *api.Message) { m.Digest = message.Batch(w.requests(88, 1)) })
	put("of another batch", func(m *api.Message) { m.Batch = w.requests(88, 1) })
	put("of something else", func(m *api.Message) { *m = proposal(m.View, m.Seq, w.requests(88, 1)) })
	put("that is a vote", func(m *api.Message) { m.Kind, m.Batch = api.MsgPrepare, nil })
	long, _ := w.Sign(primary, append(bytes.Clone(e.Body), 0))
	short, _ := w.Sign(primary, e.Body[:len(e.Body)-1])
	l["with a byte behind"], l["without the last byte"] = long, short
	return l
}

// TestNewsPlanUnsigned is of promise 15.3: a plan of which the primary has not signed all.
func TestNewsPlanUnsigned(t *testing.T) {
	for f := range api.MaxF + 1 {
		for missing := range api.Window {
			w := newWorld(t, f)
			m := api.Message{Kind: api.MsgNewView, View: 1}
			for s := range w.Quorum() {
				m.Batch = append(m.Batch, w.says(s, w.brought(1, 0, paper{seq: 8, n: 1})))
			}
			primary := w.Primary(1)
			for i := range api.Window {
				pre := nothing(1, 1+i)
				if i == 7 {
					pre = w.pre(paper{view: 1, seq: 8, n: 1})
				}
				if i == missing {
					m.Pres = append(m.Pres, w.claims(primary, pre))
					continue
				}
				m.Pres = append(m.Pres, w.says(primary, pre))
			}
			w.news(fmt.Sprintf("F %d, %d missing", f, missing), w.says(primary, m), api.Message{}, 0, api.ErrProof)
			if _, err := w.Sign(primary, m.Pres[missing].Body); err != api.OK {
				t.Fatal(err)
			}
			w.news(fmt.Sprintf("F %d, %d signed", f, missing), w.says(primary, m), m, 0, api.OK)
		}
	}
}

// TestNewsIsOwn is of rule R4: what was handed in is not changed, and what is answered is its own.
func TestNewsIsOwn(t *testing.T) {
	w := newWorld(t, 1)
	l, low := w.lists(2)
	want := w.newView(2, l...)
	e := looseEnvelope(w.says(2, want))
	was := string(e.Body[:cap(e.Body)])
	first, _, _ := change.News(w.Authority, e)
	second, _, _ := change.News(w.Authority, e)
	if got := string(e.Body[:cap(e.Body)]); got != was {
		t.Errorf("%q was handed in, and is now %q", was, got)
	}
	spoil(first)
	fill(e.Body)
	w.hold("once more", second, api.OK, want, api.OK)
	w.news("thereafter", w.says(2, want), want, low, api.OK)
}
