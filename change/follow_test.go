package change_test

import (
	"bytes"
	"fmt"
	"math/rand"
	"slices"
	"testing"

	"quaestor/api"
	"quaestor/cert"
	"quaestor/change"
	"quaestor/message"
)

// opened are the view-changes of a new view, as Read tells them.
func (w world) opened(m api.Message) []api.Message {
	w.Helper()
	var l []api.Message
	for _, e := range m.Batch {
		x, err := change.Read(w.Authority, e)
		if err != api.OK {
			w.Fatalf("a view-change of a new view that was told: %d", err)
		}
		l = append(l, x)
	}
	return l
}

// agreed is a certificate of a view and number: where honest replicas sign one only, all are for the same batch.
func agreed(view, seq int) paper {
	return paper{view: view, seq: seq, which: 100*view + seq, n: (view + seq) % (api.MaxBatch + 1)}
}

// agreeing picks view-changes of a quorum whose certificates are agreed.
func (d dice) agreeing(w world, view int) []told {
	var l []told
	for _, signer := range d.Perm(w.N())[:w.Quorum()+d.Intn(w.F()+1)] {
		seq := []int{0, 0, 4, 8}[d.Intn(4)]
		var papers []paper
		for n := seq + 1; n <= seq+api.Window; n++ {
			if d.seldom(3) {
				papers = append(papers, agreed(d.Intn(view), n))
			}
		}
		l = append(l, told{signer, w.brought(view, seq, papers...)})
	}
	return l
}

// TestLowIsProved is of promise 15.4: the low mark that a new view tells is 0, or a quorum of replicas have signed its checkpoint, all of the same state.
func TestLowIsProved(t *testing.T) {
	d := dice{rand.New(rand.NewSource(18))}
	proved := 0
	for range 400 {
		w := newWorld(t, d.Intn(api.MaxF+1))
		m := w.newView(3, d.agreeing(w, 3)...)
		_, low, err := change.News(w.Authority, w.says(w.Primary(3), m))
		if err != api.OK {
			t.Fatal(err)
		}
		if low == 0 {
			continue
		}
		found := false
		for _, x := range w.opened(m) {
			var signers []int
			for _, e := range x.Batch {
				v, err := cert.Vote(w.Authority, e, api.MsgCheckpoint)
				if err == api.OK && v.Seq == low {
					signers = append(signers, e.Signer)
				}
			}
			found = found || w.Count(signers) >= w.Quorum()
		}
		if !found {
			t.Errorf("low %d is told, and nobody proves it", low)
		}
		proved++
	}
	if proved < 50 {
		t.Errorf("%d low marks beyond 0", proved)
	}
}

// TestLatestIsAgain is of promise 15.4: what was prepared in the latest view that is told, of a number beyond the low mark, is proposed again there; and no new view that leaves it out, or proposes another thing, is told.
func TestLatestIsAgain(t *testing.T) {
	d := dice{rand.New(rand.NewSource(19))}
	const view = 4
	again := 0
	for range 150 {
		w := newWorld(t, d.Intn(api.MaxF+1))
		m := w.newView(view, d.agreeing(w, view)...)
		primary := w.Primary(view)
		_, low, err := change.News(w.Authority, w.says(primary, m))
		if err != api.OK {
			t.Fatal(err)
		}
		for n, pre := range latest(w, w.opened(m)) {
			if n <= low {
				continue
			}
			i := n - low - 1
			got, err := cert.PrePrepare(w.Authority, m.Pres[i])
			w.hold(fmt.Sprintf("number %d", n), got, err, proposal(view, n, pre.Batch), api.OK)
			for what, e := range map[string]api.Envelope{
				"nothing":       w.says(primary, proposal(view, n, nil)),
				"another thing": w.says(primary, proposal(view, n, w.requests(99, 1))),
				"an older view": w.says(primary, proposal(view, n, w.pre(agreed(7, n)).Batch)),
			} {
				if bytes.Equal(e.Body, m.Pres[i].Body) {
					continue
				}
				other := m
				other.Pres = slices.Clone(m.Pres)
				other.Pres[i] = e
				w.news(fmt.Sprintf("number %d, %s", n, what), w.says(primary, other), api.Message{}, 0, api.ErrProof)
			}
			other := m
			other.Pres = m.Pres[:i]
			w.news(fmt.Sprintf("number %d left out", n), w.says(primary, other), api.Message{}, 0, api.ErrProof)
			again++
		}
	}
	if again < 300 {
		t.Errorf("%d batches are proposed again", again)
	}
}

// latest tells of each number the pre-prepare of the latest view that view-changes tell.
func latest(w world, l []api.Message) map[int]api.Message {
	w.Helper()
	all := map[int]api.Message{}
	for _, m := range l {
		for _, c := range m.Certs {
			pre, err := cert.Prepared(w.Authority, c)
			if err != api.OK {
				w.Fatalf("a certificate of a new view that was told: %d", err)
			}
			if old, there := all[pre.Seq]; !there || pre.View > old.View {
				all[pre.Seq] = pre
			}
		}
	}
	return all
}

// TestSamePlan is of promise 15.4: all who read a new view plan the same, which is what its primary says; and where certificates are agreed, the order of the view-changes is nothing.
func TestSamePlan(t *testing.T) {
	d := dice{rand.New(rand.NewSource(20))}
	const view = 3
	for range 100 {
		w := newWorld(t, d.Intn(api.MaxF+1))
		m := w.newView(view, d.agreeing(w, view)...)
		e := w.says(w.Primary(view), m)
		for range 3 {
			read, low, err := change.News(w.Authority, e)
			l := w.opened(read)
			d.Shuffle(len(l), func(i, j int) { l[i], l[j] = l[j], l[i] })
			planned, plan := change.Plan(w.Authority, view, l)
			if err != api.OK || planned != low || len(plan) != len(read.Pres) {
				t.Fatalf("%d, low %d and %d, %d planned of %d", err, low, planned, len(plan), len(read.Pres))
			}
			for i, pre := range plan {
				if !bytes.Equal(message.Encode(pre), read.Pres[i].Body) {
					t.Errorf("number %d is planned as %s", low+1+i, tell(pre))
				}
			}
		}
	}
}

// history is what happens from view to view: which certificate each replica has for each number, which older one the faulty ones (the first f) kept, and what was committed.
type history struct {
	world
	dice
	has, kept []map[int]paper
	committed map[int]paper
}

func newHistory(t *testing.T, walk int) history {
	h := history{world: newWorld(t, walk%(api.MaxF+1)), dice: dice{rand.New(rand.NewSource(int64(walk)))}, committed: map[int]paper{}}
	for range h.N() {
		h.has, h.kept = append(h.has, map[int]paper{}), append(h.kept, map[int]paper{})
	}
	return h
}

// prepare lets some replicas have a certificate for a number: where they are a quorum, it is committed.
func (h history) prepare(p paper) {
	who := h.Perm(h.N())[:h.Intn(h.N()+1)]
	for _, r := range who {
		h.has[r][p.seq] = p
		if h.seldom(2) {
			h.kept[r][p.seq] = p
		}
	}
	if len(who) >= h.Quorum() {
		h.committed[p.seq] = p
	}
}

// changes are view-changes of a quorum: honest replicas bring all that they have, faulty ones what they kept, or nothing, for each number.
func (h history) changes(view int) []told {
	var l []told
	for _, r := range h.Perm(h.N())[:h.Quorum()] {
		var papers []paper
		for n := 1; n <= api.Window; n++ {
			p, there := h.has[r][n]
			if r < h.F() {
				p, there = h.kept[r][n]
				there = there && !h.seldom(3)
			}
			if there {
				papers = append(papers, p)
			}
		}
		l = append(l, told{r, h.brought(view, 0, papers...)})
	}
	return l
}

// TestCommittedStays is of promise 15.4: what a quorum has prepared in a view is proposed again in each later one, whoever brings along what, and whatever faulty ones keep back.
func TestCommittedStays(t *testing.T) {
	stayed, replaced := 0, 0
	for walk := range 150 {
		h := newHistory(t, walk)
		next := map[int]paper{}
		for view := range 6 {
			for n := 1; n <= api.Window; n++ {
				p, there := next[n]
				if !there {
					p = paper{which: 100*view + n, n: 1 + n%api.MaxBatch}
				}
				p.view, p.seq = view, n
				if was, there := h.committed[n]; there {
					if was.which != p.which || was.n != p.n {
						t.Errorf("walk %d, view %d: number %d was committed, and is another one", walk, view, n)
					}
					stayed++
				} else if was, there := h.has[h.N()-1][n]; there && was.which != p.which {
					replaced++
				}
				if h.seldom(2) {
					h.prepare(p)
				}
			}
			next = h.follow(walk, view+1)
		}
	}
	if stayed < 500 || replaced < 10 {
		t.Errorf("%d stayed, %d were replaced", stayed, replaced)
	}
}

// follow is a new view: what its plan proposes, by number.
func (h history) follow(walk, view int) map[int]paper {
	h.Helper()
	m := h.newView(view, h.changes(view)...)
	if _, _, err := change.News(h.Authority, h.says(h.Primary(view), m)); err != api.OK {
		h.Fatalf("walk %d, view %d: %d", walk, view, err)
	}
	next := map[int]paper{}
	for i, e := range m.Pres {
		pre, _ := message.Decode(e.Body)
		next[1+i] = h.known(pre)
	}
	return next
}

// known tells which batch a pre-prepare has.
func (h history) known(pre api.Message) paper {
	if len(pre.Batch) == 0 {
		return paper{}
	}
	ask, _ := cert.Request(h.Authority, pre.Batch[0])
	p := paper{n: len(pre.Batch)}
	fmt.Sscan(string(ask.Op), &p.which)
	return p
}
