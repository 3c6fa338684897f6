package slots_test

import (
	"fmt"
	"math/rand"
	"testing"

	"quaestor/api"
)

// dice picks what is done.
type dice struct{ *rand.Rand }

// number picks one about what is within.
func (d dice) number(l *log) int { return max(l.low-1+d.Intn(room+4), 1) }

// view picks one about the view; most often it is the view.
func (d dice) view(l *log) int {
	if d.Intn(3) > 0 {
		return l.view
	}
	return max(l.view-2+d.Intn(5), 0)
}

// seen counts what was told in a walk.
type seen map[string]int

// step does something, and holds what comes of it.
func (d dice) step(l *log, what string, told seen) {
	l.Helper()
	switch n := d.Intn(60); {
	case n == 0:
		v, want := l.view-1+d.Intn(4), api.OK
		if v <= l.view {
			want = api.ErrView
		}
		l.sets(what, v, want)
		told[fmt.Sprint("view ", want)]++
	case n == 1:
		to, want := l.low-2+d.Intn(6), api.OK
		if to < l.low {
			want = api.ErrSeq
		}
		l.lifts(what, to, want)
		told[fmt.Sprint("low ", want)]++
	case n < 14:
		e := l.pre(d.view(l), d.number(l), d.Intn(2))
		if d.Intn(20) == 0 {
			e.Signer = d.Intn(8)
		}
		_, want := l.preWant(e)
		l.takesPre(what, e, want)
		told[fmt.Sprint("pre ", want)]++
	default:
		e := l.vote(d.Intn(l.N()), voteKinds()[d.Intn(2)], d.view(l), d.number(l), d.Intn(5)/4)
		if d.Intn(20) == 0 {
			e.Signer = d.Intn(8)
		}
		_, want := l.voteWant(e)
		l.takesVote(what, e, want)
		told[fmt.Sprint("vote ", want)]++
	}
	for _, x := range asks() {
		if c, ok := x.tell(l, d.number(l)); ok {
			told[fmt.Sprint(x.name, " by ", len(c.Votes))]++
		}
	}
}

// TestWalk is of promises 14.1 to 14.4: random steps, all that is told behind each of which is plainly reckoned.
func TestWalk(t *testing.T) {
	told := seen{}
	for f := range api.MaxF + 1 {
		for seed := range 12 {
			d := dice{rand.New(rand.NewSource(int64(100*f + seed)))}
			l := newLog(t, f)
			for i := range 500 {
				d.step(l, fmt.Sprintf("F %d, seed %d, step %d", f, seed, i), told)
				if t.Failed() {
					return
				}
			}
		}
	}
	for what, least := range map[string]int{
		"view 0": 20, "view 130": 20, "low 0": 20, "low 131": 20,
		"pre 0": 100, "pre 130": 100, "pre 131": 100, "pre 82": 20, "pre 33": 20, "pre 31": 20, "pre 30": 3,
		"vote 0": 100, "vote 130": 100, "vote 131": 100, "vote 33": 100, "vote 31": 20, "vote 30": 20,
		"prepared by 0": 20, "prepared by 2": 20, "prepared by 3": 20, "prepared by 4": 5,
		"committed by 1": 20, "committed by 3": 20, "committed by 4": 5, "committed by 5": 2,
	} {
		if told[what] < least {
			t.Errorf("%s is told %d times", what, told[what])
		}
	}
}
