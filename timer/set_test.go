package timer_test

import (
	"fmt"
	"testing"

	"quaestor/timer"
)

// TestNew is of promise 16.1: wait 1; it does not run.
func TestNew(t *testing.T) {
	holds(t, "new", timer.New(), off(1))
}

// TestStart is of promise 16.1: one that does not run runs with its wait; one that runs goes on as it did.
func TestStart(t *testing.T) {
	for _, wait := range []int{1, 2, 4, 8} {
		x := reach(t, off(wait))
		x.Start()
		holds(t, "one that did not run", x, on(wait, wait))
	}
	for _, s := range running() {
		x := reach(t, s)
		x.Start()
		holds(t, "one that ran", x, s)
	}
}

// TestStartTwice is of promise 16.1: the second time does nothing, even when units have gone by.
func TestStartTwice(t *testing.T) {
	x := reach(t, off(4))
	x.Start()
	ticks(t, "started", x, 3, false, on(4, 1))
	x.Start()
	ticks(t, "started twice", x, 1, true, off(8))
	x.Start()
	holds(t, "started behind that", x, on(8, 8))
}

// TestStop is of promise 16.1: it does not run, whether it ran or not; its wait stays, and what was left is gone.
func TestStop(t *testing.T) {
	for _, s := range states() {
		x := reach(t, s)
		for range 2 {
			x.Stop()
			holds(t, fmt.Sprintf("%+v", s), x, off(s.wait))
		}
		ticks(t, "stopped", x, most, false, off(s.wait))
		x.Start()
		holds(t, "started behind Stop", x, on(s.wait, s.wait))
	}
}

// TestAgain is of promise 16.1: it runs with its wait, whether it ran or not, however many were left.
func TestAgain(t *testing.T) {
	for _, s := range states() {
		x := reach(t, s)
		for range 2 {
			x.Again()
			holds(t, fmt.Sprintf("%+v", s), x, on(s.wait, s.wait))
		}
	}
}

// TestReset is of promise 16.1: its wait is 1, and nothing else is another one: it runs as it did, with what was left.
func TestReset(t *testing.T) {
	for _, s := range states() {
		x := reach(t, s)
		for range 2 {
			x.Reset()
			holds(t, fmt.Sprintf("%+v", s), x, state{1, s.left, s.runs})
		}
		x.Start()
		holds(t, "started behind Reset", x, on(1, max(s.left, 1)))
		x.Again()
		holds(t, "again behind Reset", x, on(1, 1))
	}
}

// TestResetThenFires is of promises 16.1 and 16.2: what was left is still gone through; the wait that is doubled then is the short one.
func TestResetThenFires(t *testing.T) {
	x := reach(t, on(8, 7))
	x.Reset()
	ticks(t, "made short", x, 6, false, on(1, 1))
	ticks(t, "made short", x, 1, true, off(2))
}

// TestTell is of promise 16.3: what is asked, however often, is what is so, and changes nothing.
func TestTell(t *testing.T) {
	for _, s := range states() {
		x := reach(t, s)
		for range 3 {
			if x.Wait() != s.wait || x.Left() != s.left || x.Runs() != s.runs {
				t.Errorf("%d, %d, %t, want %+v", x.Wait(), x.Left(), x.Runs(), s)
			}
		}
		x.Stop()
		if x.Left() != 0 || x.Runs() || x.Wait() != s.wait {
			t.Errorf("stopped: %d, %d, %t, want %+v", x.Wait(), x.Left(), x.Runs(), s)
		}
	}
}
