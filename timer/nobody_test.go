package timer_test

import (
	"math"
	"testing"

	"quaestor/timer"
)

// TestNotMade is of the chapter's last words and rule R1: nil ones, and ones that New did not make: whatever is done, they never run, never fire, and their wait is 0.
func TestNotMade(t *testing.T) {
	var zero timer.Timer
	for name, x := range map[string]*timer.Timer{"nil": nil, "not made": {}, "new of nothing": new(timer.Timer), "a variable": &zero} {
		holds(t, name, x, state{})
		for range 3 {
			for _, y := range steps(ints()...) {
				if y.do(x) {
					t.Errorf("%s: %s: it fires", name, y.name)
				}
				holds(t, name+": behind "+y.name, x, state{})
			}
		}
		x.Again()
		x.Reset()
		x.Start()
		if x.Tick(1) || x.Tick(math.MaxInt) {
			t.Errorf("%s: it fires behind Reset", name)
		}
		holds(t, name+": at last", x, state{})
	}
}
