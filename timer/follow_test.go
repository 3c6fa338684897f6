package timer_test

import (
	"fmt"
	"math"
	"slices"
	"testing"

	"quaestor/timer"
)

// ways are all in which n units go by in steps, none of them of no unit.
func ways(n int) [][]int {
	if n == 0 {
		return [][]int{nil}
	}
	var l [][]int
	for first := 1; first <= n; first++ {
		for _, rest := range ways(n - first) {
			l = append(l, append([]int{first}, rest...))
		}
	}
	return l
}

// TestInHoweverManySteps is of promise 16.4: in whatever steps the units that were left go by, it fires with the last one of them, and not ahead.
func TestInHoweverManySteps(t *testing.T) {
	for _, s := range running() {
		for _, way := range ways(s.left) {
			x := reach(t, s)
			gone := 0
			for _, d := range way {
				gone += d
				want := on(s.wait, s.left-gone)
				if gone == s.left {
					want = off(longer(s.wait))
				}
				ticks(t, fmt.Sprintf("%+v by %v", s, way), x, d, gone == s.left, want)
			}
		}
	}
}

// TestPastTheEnd is of promise 16.4: it fires also with a last step that is longer than what is left.
func TestPastTheEnd(t *testing.T) {
	for _, s := range running() {
		for gone := range s.left {
			for _, d := range []int{s.left - gone, s.left - gone + 1, most + 1, math.MaxInt} {
				x := reach(t, s)
				if x.Tick(gone) {
					t.Fatalf("%+v fires behind %d", s, gone)
				}
				ticks(t, fmt.Sprintf("%+v behind %d", s, gone), x, d, true, off(longer(s.wait)))
			}
		}
	}
}

// TestStepsOfNothing is of promise 16.4: steps of no unit, or of fewer, between the others count for nothing; nor does Start.
func TestStepsOfNothing(t *testing.T) {
	for _, s := range running() {
		x := reach(t, s)
		for left := s.left; left > 0; left-- {
			for _, d := range []int{0, -1, -most, math.MinInt} {
				ticks(t, "nothing", x, d, false, on(s.wait, left))
			}
			x.Start()
			holds(t, "started", x, on(s.wait, left))
			if x.Tick(1) != (left == 1) {
				t.Fatalf("%+v: at %d", s, left)
			}
		}
	}
}

// TestWithinMost is of promise 16.4: behind Again it fires within MaxTimeout units, whatever was done ahead, in whatever steps.
func TestWithinMost(t *testing.T) {
	for _, s := range states() {
		for d := 1; d <= most; d++ {
			x := reach(t, s)
			x.Again()
			fired, gone := false, 0
			for ; gone < most && !fired; gone += d {
				fired = x.Tick(min(d, most-gone))
			}
			if !fired {
				t.Errorf("%+v: by %d it does not fire within %d units", s, d, most)
			}
		}
	}
}

// TestEverySequence is of promises 16.1 to 16.4: of all that may be done in a few steps, each comes to what is plainly reckoned, and to no state that a timer may not be in.
func TestEverySequence(t *testing.T) {
	all := steps(0, 1, 2, most)
	met := map[state]bool{}
	var from func(x *timer.Timer, what string, more int)
	from = func(x *timer.Timer, what string, more int) {
		met[see(x)] = true
		if more == 0 {
			return
		}
		for _, y := range all {
			next := *x
			takes(t, what, &next, y)
			from(&next, what+" "+y.name, more-1)
		}
	}
	from(timer.New(), "New", 6)
	for s := range met {
		if !slices.Contains(states(), s) {
			t.Errorf("it comes to %+v", s)
		}
	}
}

// TestEveryStep is of promises 16.1 to 16.4: from every state, all that may be done, of every number of units; no other states come of it, and all of them do.
func TestEveryStep(t *testing.T) {
	met := map[state]bool{}
	for _, s := range states() {
		for _, y := range steps(ints()...) {
			x := reach(t, s)
			takes(t, fmt.Sprintf("%+v", s), x, y)
			met[see(x)] = true
		}
	}
	for s := range met {
		if !slices.Contains(states(), s) {
			t.Errorf("it comes to %+v", s)
		}
	}
	if len(states()) != 26 || len(met) != 26 {
		t.Errorf("there are %d states, and %d are met", len(states()), len(met))
	}
}

// TestApart is of rule R5: what is done to one timer is not done to another one, be it made as a copy.
func TestApart(t *testing.T) {
	x, other := timer.New(), timer.New()
	x.Start()
	ticks(t, "x", x, 1, true, off(2))
	x.Again()
	holds(t, "another one", other, off(1))

	twin := *x
	ticks(t, "x", x, 1, false, on(2, 1))
	holds(t, "a copy", &twin, on(2, 2))
	ticks(t, "a copy", &twin, 2, true, off(4))
	holds(t, "x beside its copy", x, on(2, 1))
	if timer.New() == timer.New() {
		t.Error("New tells one timer twice")
	}
}
