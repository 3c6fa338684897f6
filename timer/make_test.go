package timer_test

import (
	"fmt"
	"math"
	"testing"

	"quaestor/timer"
)

// most is how many units a timer waits at most.
const most = 8

// state is all that a timer tells of itself.
type state struct {
	wait, left int
	runs       bool
}

func see(x *timer.Timer) state { return state{x.Wait(), x.Left(), x.Runs()} }

// off is a state that does not run, on one that runs.
func off(wait int) state      { return state{wait: wait} }
func on(wait, left int) state { return state{wait, left, true} }

// states are all that a timer may be in: what is left is more than the wait only where the wait was made short.
func states() []state {
	var l []state
	for _, wait := range []int{1, 2, 4, 8} {
		l = append(l, off(wait))
		for left := 1; left <= wait; left++ {
			l = append(l, on(wait, left))
		}
	}
	for left := 2; left <= most; left++ {
		l = append(l, on(1, left))
	}
	return l
}

// running are those of them that run.
func running() []state {
	var l []state
	for _, s := range states() {
		if s.runs {
			l = append(l, s)
		}
	}
	return l
}

// short tells whether no timer comes to a state but by a wait that was made short.
func (s state) short() bool { return s.left > s.wait }

// reach brings a new timer to a state.
func reach(t testing.TB, s state) *timer.Timer {
	t.Helper()
	x := timer.New()
	for _, wait := range []int{1, 2, 4} {
		if wait < max(s.wait, s.left) {
			x.Again()
			x.Tick(wait)
		}
	}
	if s.runs {
		x.Again()
		x.Tick(x.Left() - s.left)
	}
	if s.short() {
		x.Reset()
	}
	holds(t, fmt.Sprintf("%+v can't be reached", s), x, s)
	return x
}

// holds fails if a timer tells another state of itself.
func holds(t testing.TB, what string, x *timer.Timer, want state) {
	t.Helper()
	if got := see(x); got != want {
		t.Fatalf("%s: %+v, want %+v", what, got, want)
	}
}

// ticks fails if units that go by have a timer fire where it should not, or the other way round, or leave it in another state.
func ticks(t testing.TB, what string, x *timer.Timer, d int, fires bool, want state) {
	t.Helper()
	if got := x.Tick(d); got != fires {
		t.Fatalf("%s: Tick(%d): %t", what, d, got)
	}
	holds(t, fmt.Sprintf("%s: behind Tick(%d)", what, d), x, want)
}

// ints are numbers of units: about all that may be left, and at the ends of what an int may be.
func ints() []int {
	l := []int{math.MinInt, math.MinInt + 1, -1 << 32, math.MinInt32, -most, 1 << 31, 1 << 32, 1<<32 + 1, math.MaxInt - 1, math.MaxInt}
	for d := -2; d <= 2*most+1; d++ {
		l = append(l, d)
	}
	return l
}

// step is something that is done to a timer, and what it comes to by a plain reckoning.
type step struct {
	name   string
	do     func(*timer.Timer) bool
	reckon func(state) (state, bool)
}

// quiet is a step that never fires.
func quiet(name string, do func(*timer.Timer), reckon func(state) state) step {
	return step{
		name,
		func(x *timer.Timer) bool { do(x); return false },
		func(s state) (state, bool) { return reckon(s), false },
	}
}

// tick is a step that lets d units go by.
func tick(d int) step {
	return step{
		fmt.Sprintf("Tick(%d)", d),
		func(x *timer.Timer) bool { return x.Tick(d) },
		func(s state) (state, bool) { return goBy(s, d) },
	}
}

// goBy lets units go by one by one, until it does not run.
func goBy(s state, d int) (state, bool) {
	fired := false
	for i := 0; i < d && s.runs; i++ {
		s.left--
		if s.left == 0 {
			s, fired = off(longer(s.wait)), true
		}
	}
	return s, fired
}

// longer is the wait behind a wait.
func longer(wait int) int {
	switch wait {
	case 1:
		return 2
	case 2:
		return 4
	default:
		return most
	}
}

// steps are all that may be done to a timer, with these numbers of units.
func steps(units ...int) []step {
	l := []step{
		quiet("Start", (*timer.Timer).Start, func(s state) state {
			if s.runs {
				return s
			}
			return on(s.wait, s.wait)
		}),
		quiet("Stop", (*timer.Timer).Stop, func(s state) state { return off(s.wait) }),
		quiet("Again", (*timer.Timer).Again, func(s state) state { return on(s.wait, s.wait) }),
		quiet("Reset", (*timer.Timer).Reset, func(s state) state { return state{1, s.left, s.runs} }),
	}
	for _, d := range units {
		l = append(l, tick(d))
	}
	return l
}

// takes does a step, and fails if it comes to something else than it is reckoned to.
func takes(t testing.TB, what string, x *timer.Timer, y step) {
	t.Helper()
	want, fires := y.reckon(see(x))
	if got := y.do(x); got != fires {
		t.Fatalf("%s: %s: fired %t", what, y.name, got)
	}
	holds(t, what+": behind "+y.name, x, want)
}
