package timer_test

import (
	"fmt"
	"math/rand"
	"testing"

	"quaestor/timer"
)

// TestWalk is of promises 16.1 to 16.4: long random walks, each step of which is plainly reckoned; two timers that are driven alike are alike (R5).
func TestWalk(t *testing.T) {
	all := steps(ints()...)
	for range 4 * most { // most often few units go by, so that it runs for a while
		all = append(all, tick(1))
	}
	fired := 0
	for seed := range 20 {
		dice := rand.New(rand.NewSource(int64(seed)))
		x, twin := timer.New(), timer.New()
		for i := range 2000 {
			y := all[dice.Intn(len(all))]
			wait := x.Wait()
			takes(t, fmt.Sprintf("seed %d, step %d", seed, i), x, y)
			y.do(twin)
			holds(t, "its twin", twin, see(x))
			if x.Wait() > wait {
				fired++
			}
		}
	}
	if fired < 100 {
		t.Errorf("its wait grows %d times", fired)
	}
}

// TestUnits is of promise 16.4: of a walk in which nothing but time goes by between one Again and the next firing, the units that have gone by are held against the wait that there was.
func TestUnits(t *testing.T) {
	for seed := range 200 {
		dice := rand.New(rand.NewSource(int64(seed)))
		x := timer.New()
		for range 20 {
			if dice.Intn(6) == 0 {
				x.Reset()
			}
			x.Again()
			wait, gone := x.Wait(), 0
			for fired := false; !fired; {
				d := 1 + dice.Intn(3)
				fired = x.Tick(d)
				gone += d
				if fired != (gone >= wait) {
					t.Fatalf("seed %d: wait %d: behind %d units it has fired: %t", seed, wait, gone, fired)
				}
			}
			holds(t, fmt.Sprintf("seed %d: it has fired", seed), x, off(longer(wait)))
		}
	}
}
