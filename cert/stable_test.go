package cert_test

import (
	"fmt"
	"math"
	"slices"
	"testing"

	"quaestor/api"
	"quaestor/cert"
	"quaestor/ledger"
)

// stable holds what Stable tells.
func (w world) stable(what string, seq int, l []api.Envelope, want api.Digest, wantErr api.Errno) {
	w.Helper()
	if wantErr != api.OK {
		want = ""
	}
	w.quiet(what, func() {
		if got, err := cert.Stable(w.Authority, seq, l); got != want || err != wantErr {
			w.Errorf("number %d, %s: %.50q, %d, want %.50q, %d", seq, what, got, err, want, wantErr)
		}
	})
}

// checkpoints are votes for a digest of a number.
func checkpoints(seq int, d api.Digest, signers ...int) []said {
	return votes(api.MsgCheckpoint, api.Message{Seq: seq, Digest: d}, signers...)
}

// TestStable is of promise 13.4: of each set of replicas, just how many they are decides, in whatever order they stand.
func TestStable(t *testing.T) {
	seal := ledger.Seal(ledger.Pack(4, "head", []byte("state")))
	for f := range api.MaxF + 1 {
		w := newWorld(t, f)
		for set := range 1 << w.N() {
			l := slices.DeleteFunc(upTo(w.N()), func(i int) bool { return set&(1<<i) == 0 })
			k := set % (len(l) + 1)
			l = append(l[k:], l[:k]...)
			want := api.OK
			if len(l) < 2*f+1 {
				want = api.ErrQuorum
			}
			w.stable(fmt.Sprintf("by %v", l), 4, w.envelopes(checkpoints(4, seal, l...)), seal, want)
		}
	}
}

// TestStableOfNumbers is of promise 13.4: any number from 1 on, and any digest, that of no bytes too.
func TestStableOfNumbers(t *testing.T) {
	for f := range api.MaxF + 1 {
		for _, seq := range []int{1, 2, 3, 4, 5, 8, 1 << 32, top} {
			for _, d := range []api.Digest{"", "d", api.Digest(make([]byte, 5000))} {
				w := newWorld(t, f)
				w.stable("right", seq, w.envelopes(checkpoints(seq, d, upTo(2*f+1)...)), d, api.OK)
				w.stable("right, by all", seq, w.envelopes(checkpoints(seq, d, upTo(w.N())...)), d, api.OK)
			}
		}
	}
}

// TestStableOfNought is of promise 13.4 (R3): number 0 needs no votes, and may have none, whatever they are.
func TestStableOfNought(t *testing.T) {
	for f := range api.MaxF + 1 {
		w := newWorld(t, f)
		w.stable("no votes", 0, nil, "", api.OK)
		w.stable("no votes", 0, []api.Envelope{}, "", api.OK)
		for n := 1; n <= w.N(); n++ {
			w.stable("votes for another one", 0, w.envelopes(checkpoints(4, "d", upTo(n)...)), "", api.ErrMessage)
			w.stable("votes of nothing", 0, make([]api.Envelope, n), "", api.ErrMessage)
			w.stable("votes by strangers", 0, slices.Repeat([]api.Envelope{{Signer: -1}}, n), "", api.ErrMessage)
		}
	}
}

// TestStableOfOtherNumbers is of promise 13.4: votes are for one number alone; numbers that none may be have no votes.
func TestStableOfOtherNumbers(t *testing.T) {
	w := newWorld(t, 1)
	l := w.envelopes(checkpoints(4, "d", 0, 1, 2))
	for _, seq := range append(ints(), 8, math.MinInt+4) {
		switch seq {
		case 0:
			w.stable("votes of 4", seq, l, "", api.ErrMessage)
			continue
		case 4:
			w.stable("votes of 4", seq, l, "d", api.OK)
		default:
			w.stable("votes of 4", seq, l, "", api.ErrSeq)
		}
		w.stable("no votes", seq, nil, "", api.ErrQuorum)
		w.stable("no votes", seq, []api.Envelope{}, "", api.ErrQuorum)
	}
}

// TestStableOfFaults is of promise 13.4: each fault of a vote at each place, and of each two the one that is told first; all ahead of too few.
func TestStableOfFaults(t *testing.T) {
	for f := range api.MaxF + 1 {
		for place := range 2*f + 1 {
			pairs(checkpointFaults(place), func(l ...fault) {
				w := newWorld(t, f)
				x := checkpoints(4, "d", upTo(2*f+1)...)
				x[place] = with(w, x[place], ahead(x, place), l...)
				what := fmt.Sprintf("the vote at %d %s", place, whats(l))
				w.stable(what, 4, w.envelopes(x), "", l[0].err)
				w.stable(what+", the last one", 4, w.envelopes(x[:place+1]), "", l[0].err)
			})
		}
	}
}

// TestStableOfPlaces is of promise 13.4: of faults at two places the one of the place ahead is told, whatever they are.
func TestStableOfPlaces(t *testing.T) {
	for place := range 4 {
		for _, x := range checkpointFaults(place) {
			for _, y := range checkpointFaults(place + 1) {
				if x.err == y.err {
					continue
				}
				w := newWorld(t, 2)
				l := checkpoints(4, "d", 6, 4, 2, 0, 1)
				first := l[0]
				l[place] = with(w, l[place], ahead(l, place), x)
				first.forged = l[0].forged
				l[place+1] = with(w, l[place+1], first, y)
				w.stable(fmt.Sprintf("the vote at %d %s, then %s", place, x.what, y.what), 4, w.envelopes(l), "", x.err)
			}
		}
	}
}

// TestStableOfDigests is of promise 13.4: it is the first vote's digest that the others must have, not that of most of them.
func TestStableOfDigests(t *testing.T) {
	w := newWorld(t, 2)
	for _, odd := range []api.Digest{"", "x", "dd", "d\x00"} {
		for place := range 6 {
			for n := 1; n <= 6; n++ {
				l := checkpoints(4, "d", upTo(n)...)
				if place >= n {
					continue
				}
				l[place].m.Digest = odd
				want := api.ErrDigest
				if n == 1 {
					want = api.ErrQuorum
				}
				w.stable(fmt.Sprintf("%q at %d of %d", odd, place, n), 4, w.envelopes(l), "", want)
			}
		}
	}
}

// TestStableTwice is of promise 13.4: a signer that stands twice, at any two places, is told ahead of too few, and makes no vote more.
func TestStableTwice(t *testing.T) {
	for f := range api.MaxF + 1 {
		w := newWorld(t, f)
		all := w.envelopes(checkpoints(4, "d", upTo(w.N())...))
		for i := range all {
			for j := i + 1; j <= len(all); j++ {
				l := slices.Insert(slices.Clone(all), j, all[i])
				w.stable(fmt.Sprintf("%d at %d too", i, j), 4, l, "", api.ErrTwice)
				w.stable(fmt.Sprintf("%d at %d too, the last one", i, j), 4, l[:j+1], "", api.ErrTwice)
			}
		}
		w.stable("one vote alone, often", 4, slices.Repeat(all[:1], 1000), "", api.ErrTwice)
	}
}

// TestStableChangesNothing is of promise 13.4 (R4, R5): votes stay as they are, what stands behind them counts for nothing, and each answer is the same.
func TestStableChangesNothing(t *testing.T) {
	w := newWorld(t, 2)
	l := looseList(w.envelopes(checkpoints(4, "digest", upTo(7)...)))
	was := whole(l)
	for n := range len(l) + 1 {
		want := api.OK
		if n < 5 {
			want = api.ErrQuorum
		}
		w.stable("with others behind", 4, l[:n], "digest", want)
		w.stable("with others behind", 4, l[:n], "digest", want)
		if whole(l) != was {
			t.Errorf("%d votes: they are changed", n)
		}
	}
	got, _ := cert.Stable(w.Authority, 4, l)
	spoil(l)
	if got != "digest" {
		t.Errorf("%q goes with the votes", got)
	}
}
