package cert_test

import (
	"fmt"
	"slices"
	"testing"

	"quaestor/api"
	"quaestor/cert"
)

// proves holds what Prepared or Committed tells of papers.
func (w world) proves(what string, p proof, x papers, wantErr api.Errno) {
	w.Helper()
	c := w.cert(x)
	w.quiet(what, func() {
		got, err := p.ask(w.Authority, c)
		w.hold(p.name+": "+what, got, err, x.pre.m, wantErr)
	})
}

// TestProved is of promise 13.3: as many votes as are enough, and more, up to all; and each number of votes that is less.
func TestProved(t *testing.T) {
	for f := range api.MaxF + 1 {
		for _, p := range proofs() {
			for view := range 2*(3*f+1) + 1 {
				w := newWorld(t, f)
				x := p.right(w, view, 2, view%(api.MaxBatch+1))
				all := votes(p.kind, x.pre.m, p.signers(w, view)...)
				for n := range len(all) + 1 {
					want := api.OK
					if n < p.enough(f) {
						want = api.ErrQuorum
					}
					w.proves(fmt.Sprintf("%d votes", n), p, papers{x.pre, all[:n]}, want)
					w.proves(fmt.Sprintf("the last %d votes", n), p, papers{x.pre, all[len(all)-n:]}, want)
				}
				slices.Reverse(all)
				w.proves("all votes, from the last one on", p, papers{x.pre, all}, api.OK)
			}
		}
	}
}

// TestProvedAtEnds is of promise 13.3: views and numbers to the ends of what may be.
func TestProvedAtEnds(t *testing.T) {
	for _, p := range proofs() {
		for f := range api.MaxF + 1 {
			for _, view := range []int{0, 1, 1 << 32, top - 1, top} {
				for _, seq := range []int{1, 2, 8, 9, 1 << 32, top} {
					w := newWorld(t, f)
					w.proves("right", p, p.right(w, view, seq, 2), api.OK)
				}
			}
		}
	}
}

// TestProvedByAny is of promise 13.3: of each set of those who may vote, just how many they are decides, in whatever order they stand.
func TestProvedByAny(t *testing.T) {
	for f := range api.MaxF + 1 {
		for _, p := range proofs() {
			w := newWorld(t, f)
			x := p.right(w, 3, 2, 1)
			may := p.signers(w, 3)
			for set := range 1 << len(may) {
				var l []int
				for i, s := range may {
					if set&(1<<i) != 0 {
						l = append(l, s)
					}
				}
				k := set % (len(l) + 1)
				l = append(l[k:], l[:k]...)
				want := api.OK
				if len(l) < p.enough(f) {
					want = api.ErrQuorum
				}
				w.proves(fmt.Sprintf("by %v", l), p, papers{x.pre, votes(p.kind, x.pre.m, l...)}, want)
			}
		}
	}
}

// TestProvedOfPrimary is of promise 13.3: its prepare is none, at whatever place, as its pre-prepare is one; its commit is one like others.
func TestProvedOfPrimary(t *testing.T) {
	for _, f := range []int{0, 1, 2} {
		for view := range 3*f + 2 {
			for _, p := range proofs() {
				w := newWorld(t, f)
				x := p.right(w, view, 2, 1)
				others := votes(p.kind, x.pre.m, upTo(w.N(), w.Primary(view))...)
				own := votes(p.kind, x.pre.m, w.Primary(view))[0]
				for place := range len(others) + 1 {
					want := api.OK
					if p.barred {
						want = api.ErrPrimary
					}
					w.proves(fmt.Sprintf("the primary's vote at %d", place), p, papers{x.pre, slices.Insert(slices.Clone(others), place, own)}, want)
				}
			}
		}
	}
}

// TestProvedOfPre is of promise 13.3: each fault of the pre-prepare, and each fault of a request in it, ahead of those of votes, and of too few.
func TestProvedOfPre(t *testing.T) {
	for _, p := range proofs() {
		for _, x := range preFaults() {
			for _, few := range []bool{false, true} {
				w := newWorld(t, 1)
				y := p.right(w, 5, 3, 2)
				if few {
					y.votes = nil
				}
				y.pre = with(w, y.pre, nobodys(), x)
				w.proves("the pre-prepare "+x.what, p, y, x.err)
				for i := range y.votes {
					y.votes[i].m.View++
				}
				w.proves("the pre-prepare "+x.what+", and votes of another view", p, y, x.err)
			}
		}
		for _, x := range requestFaults() {
			if x.what == "of nobody" { // no message has a signer below 0
				continue
			}
			w := newWorld(t, 1)
			l := append(w.requests(1), w.envelope(with(w, asks(1001, 9, "x"), nobodys(), x)))
			pre := said{signer: 1, m: proposal(5, 3, l)}
			w.proves("a request "+x.what, p, papers{pre, votes(p.kind, pre.m, 0, 2, 3)}, x.err)
			w.proves("a request "+x.what+", and no votes", p, papers{pre: pre}, x.err)
		}
	}
}

// ahead is the first vote, as it stands ahead of a place.
func ahead(l []said, place int) said {
	if place == 0 {
		return nobodys()
	}
	return l[0]
}

// TestProvedOfFaults is of promise 13.3: each fault of a vote at each place, and of each two the one that is told first; all ahead of too few.
func TestProvedOfFaults(t *testing.T) {
	for _, f := range []int{1, 2} {
		for _, p := range proofs() {
			for place := range p.enough(f) {
				pairs(voteFaults(p, place), func(l ...fault) {
					w := newWorld(t, f)
					x := p.right(w, 5, 3, 1)
					x.votes[place] = with(w, x.votes[place], ahead(x.votes, place), l...)
					what := fmt.Sprintf("the vote at %d %s", place, whats(l))
					w.proves(what, p, x, l[0].err)
					x.votes = x.votes[:place+1]
					w.proves(what+", the last one", p, x, l[0].err)
				})
			}
		}
	}
}

// TestProvedOfPlaces is of promise 13.3: of faults at two places the one of the place ahead is told, whatever they are.
func TestProvedOfPlaces(t *testing.T) {
	for _, p := range proofs() {
		for place := range p.enough(2) - 1 {
			for _, x := range voteFaults(p, place) {
				for _, y := range voteFaults(p, place+1) {
					if x.err == y.err {
						continue
					}
					w := newWorld(t, 2)
					z := p.right(w, 5, 3, 1)
					first := z.votes[0]
					z.votes[place] = with(w, z.votes[place], ahead(z.votes, place), x)
					first.forged = z.votes[0].forged
					z.votes[place+1] = with(w, z.votes[place+1], first, y)
					w.proves(fmt.Sprintf("the vote at %d %s, then %s", place, x.what, y.what), p, z, x.err)
				}
			}
		}
	}
}

// TestProvedTwice is of promise 13.3: a signer that stands twice, at any two places, is told ahead of too few, and makes no vote more.
func TestProvedTwice(t *testing.T) {
	for _, f := range []int{1, 2} {
		for _, p := range proofs() {
			w := newWorld(t, f)
			x := p.right(w, 4, 1, 0)
			all := votes(p.kind, x.pre.m, p.signers(w, 4)...)
			for i := range all {
				for j := i + 1; j <= len(all); j++ {
					l := slices.Insert(slices.Clone(all), j, all[i])
					w.proves(fmt.Sprintf("%d at %d too", i, j), p, papers{x.pre, l}, api.ErrTwice)
					w.proves(fmt.Sprintf("%d at %d too, the last one", i, j), p, papers{x.pre, l[:j+1]}, api.ErrTwice)
				}
			}
			w.proves("one vote alone, often", p, papers{x.pre, slices.Repeat(all[:1], 1000)}, api.ErrTwice)
		}
	}
}

// TestProvedOfOtherKind is of promise 13.3: commits prepare nothing, prepares commit nothing.
func TestProvedOfOtherKind(t *testing.T) {
	for f := range api.MaxF + 1 {
		w := newWorld(t, f)
		pre := w.proposed(2, 2, 2)
		others := upTo(w.N(), w.Primary(2))
		for _, p := range proofs() {
			for _, kind := range kinds() {
				want := api.ErrMessage
				if kind == p.kind {
					want = api.OK
				}
				if len(others) == 0 {
					want = map[bool]api.Errno{true: api.OK, false: api.ErrQuorum}[p.barred]
				}
				w.proves(fmt.Sprintf("votes of kind %d", kind), p, papers{pre, votes(kind, pre.m, others...)}, want)
			}
		}
	}
}

// TestProvedIsNew is of promise 13.3 (R4, R5): what is handed in stays as it is, what stands behind it counts for nothing, and each answer is another one's memory, and the same.
func TestProvedIsNew(t *testing.T) {
	for _, p := range proofs() {
		for n := range p.enough(2) + 1 {
			w := newWorld(t, 2)
			x := p.right(w, 6, 2, 3)
			c := w.cert(x)
			pre, l := looseList([]api.Envelope{c.Pre}), looseList(c.Votes)
			c = api.Cert{Pre: pre[0], Votes: l[:n]}
			was := whole(pre) + whole(l)
			first, err := p.ask(w.Authority, c)
			second, _ := p.ask(w.Authority, c)
			want, wantErr := x.pre.m, api.OK
			if n < len(l) {
				want, wantErr = api.Message{}, api.ErrQuorum
			}
			if err != wantErr || !same(first, want) || !same(second, want) || whole(pre)+whole(l) != was {
				t.Errorf("%s by %d: %s, %d, %s", p.name, n, tell(first), err, tell(second))
			}
			spoilMessage(first)
			if !same(second, want) || whole(pre)+whole(l) != was {
				t.Errorf("%s: %s goes with another answer", p.name, tell(second))
			}
			spoil(pre)
			spoil(l)
			if !same(second, want) {
				t.Errorf("%s: %s goes with what was handed in", p.name, tell(second))
			}
		}
	}
}

// TestProvedByNone is of promise 13.3 (R3): where F is 0 the primary alone prepares, without votes, nil or not, and its commit commits.
func TestProvedByNone(t *testing.T) {
	w := newWorld(t, 0)
	pre := w.proposed(7, 1, 1)
	for _, l := range [][]api.Envelope{nil, {}} {
		c := api.Cert{Pre: w.envelope(pre), Votes: l}
		got, err := cert.Prepared(w.Authority, c)
		w.hold("prepared by none", got, err, pre.m, api.OK)
		got, err = cert.Committed(w.Authority, c)
		w.hold("committed by none", got, err, pre.m, api.ErrQuorum)
	}
	w.proves("by the one there is", proofs()[1], papers{pre, votes(api.MsgCommit, pre.m, 0)}, api.OK)
	w.proves("by the one there is", proofs()[0], papers{pre, votes(api.MsgPrepare, pre.m, 0)}, api.ErrPrimary)
}

// TestProvedOfNothing is of promise 13.3: certificates of which nothing is there.
func TestProvedOfNothing(t *testing.T) {
	w := newWorld(t, 1)
	for _, p := range proofs() {
		got, err := p.ask(w.Authority, api.Cert{})
		w.hold("no certificate", got, err, api.Message{}, api.ErrSigned)
		x := p.right(w, 0, 1, 0)
		got, err = p.ask(w.Authority, api.Cert{Votes: w.envelopes(x.votes)})
		w.hold("no pre-prepare", got, err, api.Message{}, api.ErrSigned)
		got, err = p.ask(w.Authority, api.Cert{Pre: w.envelope(x.pre), Votes: make([]api.Envelope, 3)})
		w.hold("votes of nothing", got, err, api.Message{}, api.ErrSigned)
	}
}
