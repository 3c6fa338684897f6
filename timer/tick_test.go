package timer_test

import (
	"fmt"
	"math"
	"testing"

	"quaestor/api"
	"quaestor/timer"
)

// TestTick is of promise 16.2: below what is left, at it, and past it.
func TestTick(t *testing.T) {
	for _, x := range []struct {
		from  state
		d     int
		fires bool
		to    state
	}{
		{on(1, 1), 1, true, off(2)},
		{on(1, 1), 2, true, off(2)},
		{on(1, 1), math.MaxInt, true, off(2)},
		{on(2, 2), 1, false, on(2, 1)},
		{on(2, 2), 2, true, off(4)},
		{on(2, 1), 1, true, off(4)},
		{on(4, 4), 1, false, on(4, 3)},
		{on(4, 4), 3, false, on(4, 1)},
		{on(4, 4), 4, true, off(8)},
		{on(4, 4), 5, true, off(8)},
		{on(4, 2), 1, false, on(4, 1)},
		{on(4, 2), 2, true, off(8)},
		{on(8, 8), 7, false, on(8, 1)},
		{on(8, 8), 8, true, off(8)},
		{on(8, 8), 9, true, off(8)},
		{on(8, 8), math.MaxInt, true, off(8)},
		{on(8, 1), 1, true, off(8)},
		{on(1, 8), 1, false, on(1, 7)},
		{on(1, 8), 8, true, off(2)},
	} {
		ticks(t, fmt.Sprintf("%+v", x.from), reach(t, x.from), x.d, x.fires, x.to)
	}
}

// TestTickAll is of promise 16.2: in every state, of every number of units.
func TestTickAll(t *testing.T) {
	for _, s := range states() {
		for _, d := range ints() {
			to, fires := s, false
			switch {
			case !s.runs || d < 1:
			case d < s.left:
				to.left = s.left - d
			default:
				to, fires = off(min(2*s.wait, api.MaxTimeout)), true
			}
			ticks(t, fmt.Sprintf("%+v", s), reach(t, s), d, fires, to)
		}
	}
}

// TestTickNothing is of promise 16.2: below 1 nothing goes by, however often; where it does not run it never fires.
func TestTickNothing(t *testing.T) {
	for _, s := range states() {
		x := reach(t, s)
		for _, d := range ints() {
			if d < 1 || !s.runs {
				ticks(t, fmt.Sprintf("%+v", s), x, d, false, s)
			}
		}
	}
}

// TestFiresOnce is of promise 16.2: behind that it does not run, until it is started.
func TestFiresOnce(t *testing.T) {
	for _, s := range running() {
		x := reach(t, s)
		then := off(longer(s.wait))
		ticks(t, "runs", x, s.left, true, then)
		ticks(t, "has fired", x, 1, false, then)
		ticks(t, "has fired", x, most, false, then)
		x.Start()
		holds(t, "started", x, on(then.wait, then.wait))
	}
}

// TestTwiceAsLong is of promise 16.2: 1, 2, 4, 8 units, and no more than MaxTimeout from then on, by Start and by Again alike; Reset has it begin anew.
func TestTwiceAsLong(t *testing.T) {
	for name, run := range map[string]func(*timer.Timer){"Start": (*timer.Timer).Start, "Again": (*timer.Timer).Again} {
		x := timer.New()
		for range 3 {
			for i, wait := range []int{1, 2, 4, 8, 8, 8} {
				run(x)
				holds(t, fmt.Sprintf("%s, %d", name, i), x, on(wait, wait))
				ticks(t, name, x, wait, true, off(longer(wait)))
			}
			x.Reset()
		}
	}
	if api.MaxTimeout != most {
		t.Errorf("MaxTimeout is %d", api.MaxTimeout)
	}
}

// TestStopIsNoFiring is of promises 16.1 and 16.2: the wait is doubled by nothing but that it fires.
func TestStopIsNoFiring(t *testing.T) {
	x := reach(t, off(2))
	for range 10 {
		x.Start()
		ticks(t, "started", x, 1, false, on(2, 1))
		x.Again()
		ticks(t, "again", x, 1, false, on(2, 1))
		x.Stop()
		holds(t, "stopped", x, off(2))
	}
}
