package change_test

import (
	"fmt"
	"math/rand"
	"slices"
	"testing"

	"quaestor/api"
)

// dice picks what is said.
type dice struct{ *rand.Rand }

// seldom is true once in n times.
func (d dice) seldom(n int) bool { return d.Intn(n) == 0 }

// seen counts what was told in a walk.
type seen map[string]int

// all fails if something was told too seldom to tell.
func (n seen) all(t *testing.T, least int, want ...string) {
	t.Helper()
	for _, what := range want {
		if n[what] < least {
			t.Errorf("%s is told %d times", what, n[what])
		}
	}
}

func errno(err api.Errno) string { return fmt.Sprintf("error %d", err) }

func errnos(l ...api.Errno) []string {
	var all []string
	for _, err := range l {
		all = append(all, errno(err))
	}
	return all
}

// spec is a view-change: what is said, and what is wrong with it.
type spec struct {
	signer, view, seq int
	votes             int // of checkpoints
	papers            []paper
	bad               int // the certificate without a vote, or -1
	forged            bool
}

// message makes it.
func (s spec) message(w world) api.Message {
	w.Helper()
	m := api.Message{Kind: api.MsgViewChange, View: s.view, Seq: s.seq, Certs: w.certs(s.papers)}
	m.Batch = w.checkpoints(max(s.seq, 1), "state", upTo(s.votes)...)
	if s.bad >= 0 {
		m.Certs[s.bad].Votes = m.Certs[s.bad].Votes[1:]
	}
	return m
}

// envelope signs it; what is forged was never said, for it has a view that no other one has.
func (s spec) envelope(w world) api.Envelope {
	w.Helper()
	if s.forged || !w.Known(s.signer) {
		return w.claims(s.signer, s.message(w))
	}
	return w.says(s.signer, s.message(w))
}

// reckon tells plainly what Read tells of it.
func (s spec) reckon(f int) api.Errno {
	replica := s.signer >= 0 && s.signer <= 3*f
	switch {
	case !replica && (s.signer < 1000 || s.signer >= 1000+clients):
		return api.ErrSigner
	case s.forged:
		return api.ErrSigned
	case !replica:
		return api.ErrMessage
	case s.seq == 0 && s.votes > 0, s.seq > 0 && s.votes < 2*f+1, s.bad >= 0:
		return api.ErrProof
	}
	for i, p := range s.papers {
		if p.seq <= s.seq || p.seq > s.seq+8 || p.view >= s.view || i > 0 && p.seq <= s.papers[i-1].seq {
			return api.ErrProof
		}
	}
	return api.OK
}

// spec picks one that holds, almost always.
func (d dice) spec(w world, signer, view int) spec {
	s := spec{signer: signer, view: view, seq: []int{0, 0, 0, 4, 4, 5}[d.Intn(6)], bad: -1}
	if s.seq > 0 {
		s.votes = w.Quorum() + d.Intn(w.F()+1)
	}
	for n := s.seq + 1; n <= s.seq+api.Window; n++ {
		if d.seldom(3) {
			s.papers = append(s.papers, paper{view: d.Intn(view), seq: n, which: d.Intn(3), n: d.Intn(3)})
		}
	}
	if d.seldom(12) {
		d.spoil(w, &s)
	}
	return s
}

// spoil does something to one, which need not be a fault.
func (d dice) spoil(w world, s *spec) {
	switch d.Intn(7) {
	case 0:
		s.signer = []int{4, 7, 8, 999, 1000, 1002, 1003}[d.Intn(7)]
	case 1:
		s.forged, s.view = true, 1000+d.Intn(1<<20)
	case 2:
		s.votes = d.Intn(w.N() + 1)
	case 3:
		if len(s.papers) > 0 && w.F() > 0 {
			s.bad = d.Intn(len(s.papers))
		}
	case 4:
		if len(s.papers) > 0 {
			s.papers[d.Intn(len(s.papers))].seq = 1 + d.Intn(s.seq+api.Window+2)
		}
	case 5:
		if len(s.papers) > 0 {
			s.papers[d.Intn(len(s.papers))].view = d.Intn(s.view + 2)
		}
	case 6:
		d.Shuffle(len(s.papers), func(i, j int) { s.papers[i], s.papers[j] = s.papers[j], s.papers[i] })
	}
}

// TestWalkOfReads is of promise 15.1: random view-changes are told as they are plainly reckoned.
func TestWalkOfReads(t *testing.T) {
	d := dice{rand.New(rand.NewSource(15))}
	told := seen{}
	for i := range 6000 {
		f := d.Intn(api.MaxF + 1)
		w := newWorld(t, f)
		s := d.spec(w, d.Intn(w.N()), 1+d.Intn(4))
		if d.seldom(2) {
			d.spoil(w, &s)
		}
		want := s.reckon(f)
		w.reads(fmt.Sprintf("walk %d, F %d, %+v", i, f, s), s.envelope(w), s.message(w), want)
		told[errno(want)]++
	}
	told.all(t, 100, errnos(api.OK, api.ErrSigner, api.ErrSigned, api.ErrMessage, api.ErrProof)...)
}

// reckonPlan tells plainly what is planned.
func (w world) reckonPlan(view int, l []spec) (int, []api.Message) {
	w.Helper()
	low, high := 0, 0
	for _, s := range l {
		low = max(low, s.seq)
		for _, p := range s.papers {
			high = max(high, p.seq)
		}
	}
	var plan []api.Message
	for n := low + 1; n <= high && n <= low+8; n++ {
		greatest, next := -1, nothing(view, n)
		for _, s := range l {
			for _, p := range s.papers {
				if p.seq == n && p.view > greatest {
					greatest, next = p.view, w.again(view, p)
				}
			}
		}
		plan = append(plan, next)
	}
	return low, plan
}

// TestWalkOfPlans is of promise 15.2: what is planned of random view-changes, right or not, is as it is plainly reckoned.
func TestWalkOfPlans(t *testing.T) {
	d := dice{rand.New(rand.NewSource(16))}
	told := seen{}
	for i := range 4000 {
		w := newWorld(t, d.Intn(api.MaxF+1))
		view := 1 + d.Intn(4)
		var specs []spec
		var l []api.Message
		for range d.Intn(w.N() + 1) {
			s := d.spec(w, 0, view)
			if d.seldom(3) {
				d.spoil(w, &s)
			}
			if d.seldom(4) && len(s.papers) > 0 {
				s.papers[0].seq += d.Intn(12)
			}
			specs, l = append(specs, s), append(l, s.message(w))
		}
		low, plan := w.reckonPlan(view, specs)
		w.plans(fmt.Sprintf("walk %d, %+v", i, specs), view, l, low, plan...)
		told[fmt.Sprintf("%d planned", len(plan))]++
	}
	told.all(t, 50, "0 planned", "4 planned", "7 planned", "8 planned")
}

// reckonNews tells plainly what News tells of the view-changes of a new view.
func reckonNews(f, view int, l []spec) api.Errno {
	heard := map[int]int{}
	for _, s := range l {
		if err := s.reckon(f); err != api.OK {
			return err
		}
		if s.view != view {
			return api.ErrView
		}
		heard[s.signer]++
		if heard[s.signer] > 1 {
			return api.ErrTwice
		}
	}
	if len(l) < 2*f+1 {
		return api.ErrQuorum
	}
	return api.OK
}

// TestWalkOfNews is of promise 15.3: random new views are told as they are plainly reckoned.
func TestWalkOfNews(t *testing.T) {
	d := dice{rand.New(rand.NewSource(17))}
	told := seen{}
	for i := range 6000 {
		f := d.Intn(api.MaxF + 1)
		w := newWorld(t, f)
		view := 1 + d.Intn(4)
		specs := d.specs(w, view)
		m := api.Message{Kind: api.MsgNewView, View: view}
		for _, s := range specs {
			m.Batch = append(m.Batch, s.envelope(w))
		}
		want := reckonNews(f, view, specs)
		low, plan := w.reckonPlan(view, specs)
		m.Pres = w.planned(w.Primary(view), plan)
		if d.seldom(4) && d.spoilPres(w, &m) && want == api.OK {
			want = api.ErrProof
			told["another plan"]++
		}
		w.news(fmt.Sprintf("walk %d, F %d, %+v", i, f, specs), w.says(w.Primary(view), m), m, low, want)
		told[errno(want)]++
	}
	told.all(t, 30, errnos(api.OK, api.ErrSigner, api.ErrSigned, api.ErrMessage, api.ErrProof, api.ErrView, api.ErrTwice, api.ErrQuorum)...)
	told.all(t, 50, "another plan")
}

// specs picks view-changes, mostly enough of them.
func (d dice) specs(w world, view int) []spec {
	n := w.Quorum() + d.Intn(w.F()+1)
	if d.seldom(8) {
		n = d.Intn(w.N() + 1)
	}
	var l []spec
	for _, signer := range d.Perm(w.N())[:n] {
		s := d.spec(w, signer, view)
		if d.seldom(30) {
			s.view++
		}
		if d.seldom(30) && len(l) > 0 {
			s.signer = l[d.Intn(len(l))].signer
		}
		l = append(l, s)
	}
	return l
}

// spoilPres makes another plan, and tells whether it did.
func (d dice) spoilPres(w world, m *api.Message) bool {
	if len(m.Pres) == 0 {
		m.Pres = append(m.Pres, w.says(w.Primary(m.View), nothing(m.View, 9)))
		return true
	}
	i := d.Intn(len(m.Pres))
	switch d.Intn(4) {
	case 0:
		m.Pres = slices.Delete(m.Pres, i, i+1)
	case 1:
		m.Pres[i] = w.says(w.Primary(m.View), proposal(m.View, 1+i, w.requests(99, 3)))
	case 2:
		m.Pres[i].Signer = (m.Pres[i].Signer + 1) % (w.N() + 1)
	case 3:
		j := d.Intn(len(m.Pres))
		m.Pres[i], m.Pres[j] = m.Pres[j], m.Pres[i]
		return i != j
	}
	return true
}
