package slots_test

import (
	"bytes"
	"fmt"
	"math/bits"
	"slices"
	"testing"

	"quaestor/api"
)

// ask is what tells of a kind of votes: how many are enough, and whether the primary's counts.
type ask struct {
	name    string
	kind    int
	enough  func(f int) int
	primary bool
	tell    func(l *log, n int) (api.Cert, bool)
}

func asks() []ask {
	return []ask{
		{"prepared", api.MsgPrepare, func(f int) int { return 2 * f }, false, func(l *log, n int) (api.Cert, bool) { return l.s.Prepared(n) }},
		{"committed", api.MsgCommit, func(f int) int { return 2*f + 1 }, true, func(l *log, n int) (api.Cert, bool) { return l.s.Committed(n) }},
	}
}

// told holds that something is told of a number by these signers, or, if there are none that are enough, nothing.
func (l *log) told(what string, x ask, n int, want bool, by ...int) {
	l.Helper()
	c, ok := x.tell(l, n)
	if !want {
		by = nil
	}
	if ok != want || !slices.Equal(signers(c), by) {
		l.Errorf("%s, %s: %t by %v, want %t by %v", what, x.name, ok, signers(c), want, by)
	}
	if pre, _ := l.s.At(n); ok && !sameEnvelope(c.Pre, pre) || !ok && !sameEnvelope(c.Pre, api.Envelope{}) {
		l.Errorf("%s, %s: the pre-prepare is %q", what, x.name, c.Pre.Body)
	}
}

// TestToldBySets is of promise 14.3: each set of replicas that vote, in any order: it is told if they are enough, but for the primary's prepare, with all of them, by rising signers.
func TestToldBySets(t *testing.T) {
	for f := range api.MaxF + 1 {
		for _, view := range []int{0, 1, 2, 9} {
			for _, x := range asks() {
				for set := range uint(1) << (3*f + 1) {
					l := newLog(t, f)
					if view > 0 {
						l.sets("view", view, api.OK)
					}
					if set%2 == 0 {
						l.takesPre("pre", l.pre(view, 3, 1), api.OK)
					}
					var by []int
					for i := range l.N() {
						signer := (i*3 + int(set)) % l.N() // 3 and N have no common part
						if set&(1<<signer) == 0 {
							continue
						}
						l.takesVote("vote", l.vote(signer, x.kind, view, 3, 1), api.OK)
						if x.primary || signer != view%l.N() {
							by = append(by, signer)
						}
					}
					slices.Sort(by)
					if set%2 != 0 {
						l.told("without a pre-prepare", x, 3, false)
						l.takesPre("pre, behind its votes", l.pre(view, 3, 1), api.OK)
					}
					l.told(fmt.Sprintf("F %d, view %d, set %b", f, view, set), x, 3, len(by) >= x.enough(f), by...)
				}
			}
		}
	}
}

// TestToldOneByOne is of promise 14.3: at one less than are enough it is not told, at so many it is, with one more too.
func TestToldOneByOne(t *testing.T) {
	for f := range api.MaxF + 1 {
		for _, x := range asks() {
			l := newLog(t, f)
			l.takesPre("pre", l.pre(0, 8, 2), api.OK)
			var by []int
			for signer := range l.N() {
				l.told("ahead", x, 8, len(by) >= x.enough(f), by...)
				l.takesVote("vote", l.vote(signer, x.kind, 0, 8, 2), api.OK)
				if x.primary || signer > 0 {
					by = append(by, signer)
				}
			}
			l.told("all", x, 8, true, by...)
		}
	}
}

// TestToldNothing is of promise 14.3: votes of the other kind, of another view, of another number, for another digest count not; nor do right ones where there is no pre-prepare.
func TestToldNothing(t *testing.T) {
	for _, x := range asks() {
		other := api.MsgPrepare + api.MsgCommit - x.kind
		for what, vote := range map[string]func(l *log, signer int) api.Envelope{
			"of the other kind":  func(l *log, signer int) api.Envelope { return l.vote(signer, other, 1, 3, 1) },
			"of another view":    func(l *log, signer int) api.Envelope { return l.vote(signer, x.kind, 2, 3, 1) },
			"of another number":  func(l *log, signer int) api.Envelope { return l.vote(signer, x.kind, 1, 4, 1) },
			"for another digest": func(l *log, signer int) api.Envelope { return l.vote(signer, x.kind, 1, 3, 2) },
			"for nothing": func(l *log, signer int) api.Envelope {
				return l.says(signer, api.Message{Kind: x.kind, View: 1, Seq: 3})
			},
		} {
			for odd := range 4 {
				l := newLog(t, 1)
				l.sets("view", 1, api.OK)
				l.takesPre("pre", l.pre(1, 3, 1), api.OK)
				var by []int
				for signer := range 4 {
					if signer == odd {
						l.takesVote(what, vote(l, signer), api.OK)
						continue
					}
					l.takesVote("right", l.vote(signer, x.kind, 1, 3, 1), api.OK)
					if x.primary || signer != 1 {
						by = append(by, signer)
					}
				}
				l.told(fmt.Sprintf("%d %s", odd, what), x, 3, len(by) >= x.enough(1), by...)
				l.told(what, x, 4, false)
			}
			l := newLog(t, 1)
			l.sets("view", 1, api.OK)
			l.takesPre("pre", l.pre(1, 3, 1), api.OK)
			for signer := range 4 {
				l.takesVote(what, vote(l, signer), api.OK)
			}
			l.told("all "+what, x, 3, false)
			l.told("all "+what, x, 4, false)
		}
	}
}

// TestToldOfNumbers is of promise 14.3: at each number within something else stands, and is told; at no other number anything is.
func TestToldOfNumbers(t *testing.T) {
	l := newLog(t, 1)
	l.lifts("low", 4, api.OK)
	for seq := 5; seq <= 12; seq++ {
		l.takesPre("pre", l.pre(0, seq, seq%5), api.OK)
		for _, x := range asks() {
			for signer := range 1 + seq%4 {
				l.takesVote("vote", l.vote(3-signer, x.kind, 0, seq, seq%5), api.OK)
			}
		}
	}
	for seq := 5; seq <= 12; seq++ {
		by := [][]int{{3}, {2, 3}, {1, 2, 3}, {0, 1, 2, 3}}[seq%4]
		l.told(fmt.Sprintf("number %d", seq), asks()[0], seq, seq%4 >= 1, slices.DeleteFunc(slices.Clone(by), func(n int) bool { return n == 0 })...)
		l.told(fmt.Sprintf("number %d", seq), asks()[1], seq, seq%4 >= 2, by...)
	}
	for _, n := range append(ints(), 4, 13) {
		if _, ok := l.s.At(n); ok != (n >= 5 && n <= 12) {
			t.Errorf("At(%d): %t", n, ok)
		}
		if n < 5 || n > 12 {
			l.told("not within", asks()[0], n, false)
			l.told("not within", asks()[1], n, false)
		}
	}
}

// TestToldOfOne is of promise 14.3: where nobody is faulty, one replica's pre-prepare is prepared by itself, and committed by its commit.
func TestToldOfOne(t *testing.T) {
	l := newLog(t, 0)
	l.told("nothing", asks()[0], 1, false)
	l.takesPre("pre", l.pre(0, 1, 1), api.OK)
	l.told("pre", asks()[0], 1, true)
	l.told("pre", asks()[1], 1, false)
	l.takesVote("prepare", l.vote(0, api.MsgPrepare, 0, 1, 1), api.OK)
	l.told("prepare", asks()[0], 1, true)
	l.takesVote("commit", l.vote(0, api.MsgCommit, 0, 1, 1), api.OK)
	l.told("commit", asks()[1], 1, true, 0)
}

// TestLast is of promise 14.3: the greatest number that has a pre-prepare, in whatever order they came; votes count not.
func TestLast(t *testing.T) {
	for set := range uint(1) << room {
		l := newLog(t, 0)
		l.lifts("low", 4, api.OK)
		l.takesVote("vote", l.vote(0, api.MsgCommit, 0, 12, 0), api.OK)
		for i := range room {
			if seq := i * 5 % room; set&(1<<seq) != 0 {
				l.takesPre("pre", l.pre(0, 5+seq, 0), api.OK)
			}
		}
		if want := 4 + bits.Len(set); l.s.Last() != want {
			t.Errorf("%b: last %d, want %d", set, l.s.Last(), want)
		}
		if want := 1 + bits.OnesCount(set); l.s.Size() != want {
			t.Errorf("%b: size %d, want %d", set, l.s.Size(), want)
		}
		l.sets("view", 1, api.OK)
		if l.s.Last() != 4 {
			t.Errorf("%b: last %d in the next view", set, l.s.Last())
		}
	}
}

// full is slots with all that they have room for.
func full(t testing.TB, f int) *log {
	t.Helper()
	l := newLog(t, f)
	for seq := 1; seq <= room; seq++ {
		l.takesPre("pre", l.pre(0, seq, seq%5), api.OK)
		for _, kind := range voteKinds() {
			for signer := range l.N() {
				l.takesVote("vote", l.vote(signer, kind, 0, seq, seq%5), api.OK)
			}
		}
	}
	return l
}

// TestToldIsNew is of promise 14.3 (R4, R5): what is handed out is written over, and behind its ends, and the next answer is the same.
func TestToldIsNew(t *testing.T) {
	l := full(t, 1)
	for seq := 1; seq <= room; seq++ {
		first, _ := l.s.At(seq)
		was := bytes.Clone(first.Body)
		spoil(first)
		second, _ := l.s.At(seq)
		if !bytes.Equal(second.Body, was) {
			t.Errorf("At(%d) goes with what was handed out", seq)
		}
		for _, x := range asks() {
			one, _ := x.tell(l, seq)
			two, _ := x.tell(l, seq)
			spoilCert(one)
			three, _ := x.tell(l, seq)
			if !sameCert(two, three) || len(two.Votes) < 3 {
				t.Errorf("%s, %d: it goes with what was handed out", x.name, seq)
			}
			spoil(two.Pre)
			for i, e := range two.Votes {
				spoil(e)
				for j, other := range two.Votes {
					if j > i && !sameEnvelope(other, three.Votes[j]) {
						t.Errorf("%s, %d: vote %d goes with %d", x.name, seq, j, i)
					}
				}
			}
		}
		l.holds("written over")
	}
}
