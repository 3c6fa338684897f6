package change_test

import (
	"fmt"
	"math"
	"slices"
	"testing"

	"quaestor/api"
	"quaestor/authn"
	"quaestor/change"
	"quaestor/message"
)

// plans holds what Plan tells of messages.
func (w world) plans(what string, view int, l []api.Message, wantLow int, want ...api.Message) {
	w.Helper()
	w.quiet(what, func() {
		low, got := change.Plan(w.Authority, view, l)
		w.holdPlan(what, low, got, wantLow, want)
	})
}

// nothing is what is proposed where nothing was prepared.
func nothing(view, seq int) api.Message { return proposal(view, seq, nil) }

// again is a pre-prepare's batch, proposed in another view.
func (w world) again(view int, p paper) api.Message {
	w.Helper()
	p.view = view
	return w.pre(p)
}

// TestPlan is of promise 15.2: what messages without certificates, with one, and with several for one number and for others, lead to.
func TestPlan(t *testing.T) {
	w := newWorld(t, 1)
	none := func(seq int) api.Message { return w.brought(9, seq) }
	x := func(view, seq, which int) paper { return paper{view: view, seq: seq, which: which, n: 1 + which%3} }
	a, b, c := x(0, 2, 1), x(1, 2, 2), x(1, 2, 3)
	w.plans("of none", 9, nil, 0)
	w.plans("of an empty one", 9, []api.Message{}, 0)
	w.plans("of no certificates", 9, []api.Message{none(0), none(0), none(0)}, 0)
	w.plans("of checkpoints", 9, []api.Message{none(4), none(12), none(8)}, 12)
	w.plans("of one certificate", 9, []api.Message{none(0), w.brought(9, 0, a), none(0)}, 0, nothing(9, 1), w.again(9, a))
	w.plans("of a batch of none", 9, []api.Message{w.brought(9, 0, paper{view: 3, seq: 1})}, 0, nothing(9, 1))
	w.plans("of the greater view first", 9, []api.Message{w.brought(9, 0, b), w.brought(9, 0, a)}, 0, nothing(9, 1), w.again(9, b))
	w.plans("of the greater view last", 9, []api.Message{w.brought(9, 0, a), w.brought(9, 0, b)}, 0, nothing(9, 1), w.again(9, b))
	w.plans("of one view, list by list", 9, []api.Message{w.brought(9, 0, a), w.brought(9, 0, b), w.brought(9, 0, c)}, 0, nothing(9, 1), w.again(9, b))
	w.plans("of one view, the other way round", 9, []api.Message{w.brought(9, 0, c), w.brought(9, 0, b), w.brought(9, 0, a)}, 0, nothing(9, 1), w.again(9, c))
	w.plans("of gaps", 9, []api.Message{w.brought(9, 0, x(2, 5, 4)), w.brought(9, 0, a, x(4, 3, 5))}, 0,
		nothing(9, 1), w.again(9, a), w.again(9, x(0, 3, 5)), nothing(9, 4), w.again(9, x(0, 5, 4)))
	w.plans("up to the low mark", 9, []api.Message{w.brought(9, 0, a, x(4, 4, 5)), none(4)}, 4)
	w.plans("one beyond the low mark", 9, []api.Message{w.brought(9, 0, a, x(4, 4, 5), x(0, 5, 6)), none(4)}, 4, w.again(9, x(0, 5, 6)))
}

// TestPlanOfOneList is of promise 15.2: in one list, of several for one number and view the one on the left counts.
func TestPlanOfOneList(t *testing.T) {
	w := newWorld(t, 1)
	x := func(view, which int) paper { return paper{view: view, seq: 1, which: which, n: 1} }
	for _, views := range [][]int{{0, 0, 0}, {0, 1, 1}, {1, 0, 1}, {1, 1, 0}, {0, 1, 2}, {2, 1, 0}, {1, 2, 1}, {0, 0, 1}} {
		best := slices.Index(views, slices.Max(views))
		l := []paper{x(views[0], 0), x(views[1], 1), x(views[2], 2)}
		want := w.again(5, l[best])
		w.plans(fmt.Sprintf("one list, views %v", views), 5, []api.Message{w.brought(5, 0, l...)}, 0, want)
		w.plans(fmt.Sprintf("two and one, views %v", views), 5, []api.Message{w.brought(5, 0, l[:2]...), w.brought(5, 0, l[2])}, 0, want)
		w.plans(fmt.Sprintf("one and two, views %v", views), 5, []api.Message{w.brought(5, 0, l[0]), w.brought(5, 0, l[1:]...)}, 0, want)
	}
}

// TestPlanWindow is of promise 15.2: for each low mark and each greatest number, how far the plan goes.
func TestPlanWindow(t *testing.T) {
	w := newWorld(t, 1)
	for low := range 13 {
		for high := 1; high <= low+api.Window+3; high++ {
			last := paper{view: 1, seq: high, which: 7, n: 1}
			l := []api.Message{{Seq: low}, {Seq: 0, Certs: w.certs([]paper{last})}}
			var want []api.Message
			for n := low + 1; n <= min(high, low+api.Window); n++ {
				want = append(want, nothing(3, n))
			}
			if low < high && high <= low+api.Window {
				want[len(want)-1] = w.again(3, last)
			}
			w.plans(fmt.Sprintf("low %d, high %d", low, high), 3, l, low, want...)
		}
	}
}

// TestPlanWithoutPre is of promise 15.2: certificates whose Pre holds no pre-prepare count not, be they the only ones, or beside others.
func TestPlanWithoutPre(t *testing.T) {
	w := newWorld(t, 1)
	p := paper{view: 1, seq: 2, which: 1, n: 2}
	for i, e := range append(w.unlike(0, api.MsgPrePrepare), api.Envelope{}, api.Envelope{Signer: -1, Body: []byte("x")}) {
		c := api.Cert{Pre: e, Votes: w.cert(p).Votes}
		w.plans(fmt.Sprintf("%d alone", i), 4, []api.Message{{Seq: 0, Certs: []api.Cert{c}}}, 0)
		w.plans(fmt.Sprintf("%d ahead", i), 4, []api.Message{{Certs: []api.Cert{c, w.cert(p)}}}, 0, nothing(4, 1), w.again(4, p))
		w.plans(fmt.Sprintf("%d behind", i), 4, []api.Message{{Certs: []api.Cert{w.cert(p), c}}, {Certs: []api.Cert{c}}}, 0, nothing(4, 1), w.again(4, p))
	}
}

// TestPlanOfAny is of rules R1 and R6: views, checkpoints and numbers may be any; a plan is never longer than the window.
func TestPlanOfAny(t *testing.T) {
	w := newWorld(t, 1)
	for _, view := range ints() {
		w.plans("view", view, []api.Message{{Certs: w.certs([]paper{{view: 3, seq: 1, n: 1}})}}, 0, w.again(view, paper{seq: 1, n: 1}))
	}
	for _, low := range ints() {
		for _, seq := range []int{1, 2, 8, 9, 1000, 1 << 32, top - 1, top} {
			p := paper{view: 1, seq: seq, n: 2}
			var want []api.Message
			for i := range api.Window {
				if low < seq && low+i < seq { // the first says that the sum is one
					want = append(want, nothing(2, low+1+i))
					if low+1+i == seq {
						want[i] = w.again(2, p)
					}
				}
			}
			w.plans(fmt.Sprintf("low %d, number %d", low, seq), 2, []api.Message{{Seq: low, Certs: w.certs([]paper{p})}}, low, want...)
		}
		w.plans(fmt.Sprintf("low %d", low), 2, []api.Message{{Seq: low}}, low)
		w.plans(fmt.Sprintf("low %d, and the least", low), 2, []api.Message{{Seq: math.MinInt}, {Seq: low}, {Seq: math.MinInt}}, low)
	}
}

// TestPlanOfAnybody is of promise 15.2: who signed what is for Read to tell; a plan is the same by any authority.
func TestPlanOfAnybody(t *testing.T) {
	w := newWorld(t, 1)
	p := paper{view: 1, seq: 1, which: 3, n: 2}
	l := []api.Message{w.brought(4, 0, p)}
	for _, a := range []*authn.Authority{nil, {}, authn.New(2, 0)} {
		low, got := change.Plan(a, 4, l)
		w.holdPlan("by another one", low, got, 0, []api.Message{w.again(4, p)})
	}
}

// TestPlanIsWell is of promises 15.2 and 15.3: what is planned of what Read told is well, to the ends of what may be, so that it can be signed.
func TestPlanIsWell(t *testing.T) {
	for f := range api.MaxF + 1 {
		w := newWorld(t, f)
		for _, m := range []api.Message{
			w.brought(top, 0, paper{view: 1, seq: 8, n: api.MaxBatch}),
			w.brought(top, top-8, paper{view: 1, seq: top, n: api.MaxBatch}),
			w.brought(1, top-3, paper{seq: top}),
			w.brought(1, top),
		} {
			read, err := change.Read(w.Authority, w.says(0, m))
			low, plan := change.Plan(w.Authority, m.View, []api.Message{read})
			if err != api.OK || low != m.Seq {
				t.Errorf("%d, low %d, want %d", err, low, m.Seq)
			}
			for i, pre := range plan {
				if message.Check(pre) != api.OK || pre.Seq != low+1+i || pre.View != m.View || pre.Digest != message.Batch(pre.Batch) {
					t.Errorf("%d of the plan of %d: %s", i, low, tell(pre))
				}
			}
		}
	}
}

// TestPlanIsOwn is of rule R4: what was handed in is not changed, and what is answered is its own.
func TestPlanIsOwn(t *testing.T) {
	w := newWorld(t, 1)
	p, q := paper{view: 1, seq: 1, which: 3, n: 2}, paper{view: 1, seq: 3, which: 4, n: 3}
	l := []api.Message{loose(w.brought(4, 0, p, q)), loose(w.brought(4, 0)), {Seq: 77}}[:2]
	was := wholes(l)
	_, first := change.Plan(w.Authority, 4, l)
	_, second := change.Plan(w.Authority, 4, l)
	if got := wholes(l); got != was {
		t.Errorf("%q was handed in, and is now %q", was, got)
	}
	for _, m := range first[:cap(first)] {
		spoil(m)
	}
	want := []api.Message{w.again(4, p), nothing(4, 2), w.again(4, q)}
	if got := wholes(l); got != was {
		t.Errorf("%q was handed in, and is now %q", was, got)
	}
	for _, m := range l {
		spoil(m)
	}
	w.holdPlan("once more", 0, second, 0, want)
	for i, m := range second {
		spoil(m)
		w.holdPlan("what stands behind", 0, second[i+1:], 0, want[i+1:])
	}
}
