package authn_test

import (
	"fmt"
	"math"
	"math/bits"
	"math/rand"
	"testing"

	"quaestor/api"
	"quaestor/authn"
)

// said is a signer and bytes.
type said struct {
	signer int
	body   string
}

// TestUnsignedIsNeverRight is of promise 3.4: of many pairs that are easily taken for one another, just those that were signed are right, in whatever order they came.
func TestUnsignedIsNeverRight(t *testing.T) {
	var all []said
	for _, signer := range []int{0, 1, 2, 3, 1000, 1001} {
		for _, body := range []string{"", "0", "1", "01", "10", "1000", "0 ", "\x00", "\x01", "\x00\x00", "\x01\x00", "\xff"} {
			all = append(all, said{signer, body})
		}
	}
	dice := rand.New(rand.NewSource(1))
	for range 50 {
		a := authn.New(1, 2)
		was := map[said]bool{}
		for range dice.Intn(2 * len(all)) {
			x := all[dice.Intn(len(all))]
			signs(t, a, x.signer, []byte(x.body))
			was[x] = true
		}
		signed(t, a, len(was))
		for _, x := range all {
			want := api.ErrSigned
			if was[x] {
				want = api.OK
			}
			checks(t, a, x.signer, x.body, want)
		}
	}
}

// TestManySigned is of promises 3.2 and 3.4: of as many pairs as there may be, each stays.
func TestManySigned(t *testing.T) {
	a := authn.New(2, 8)
	const many = 20000
	for i := range many {
		signs(t, a, i%7, []byte(fmt.Sprint(i)))
	}
	signed(t, a, many)
	for i := range many {
		checks(t, a, i%7, fmt.Sprint(i), api.OK)
		checks(t, a, (i+1)%7, fmt.Sprint(i), api.ErrSigned)
	}
}

// TestQuorumsMeet is of promise 3.4: two sets of Quorum() replicas have more than F in common.
func TestQuorumsMeet(t *testing.T) {
	for f := range api.MaxF + 1 {
		a := authn.New(f, 0)
		for one := range uint(1) << a.N() {
			for other := range uint(1) << a.N() {
				if bits.OnesCount(one) == a.Quorum() && bits.OnesCount(other) == a.Quorum() && bits.OnesCount(one&other) <= a.F() {
					t.Errorf("F %d: %b and %b", f, one, other)
				}
			}
		}
	}
}

// TestEachIsPrimaryOnce is of promise 3.4: within any N views that follow one another.
func TestEachIsPrimaryOnce(t *testing.T) {
	for f := range api.MaxF + 1 {
		a := authn.New(f, 0)
		for _, first := range []int{0, 1, 2, 3, 5, 6, 7, 20, 1 << 31, 1<<32 - 3, math.MaxInt - 8} {
			times := map[int]int{}
			for view := first; view < first+a.N(); view++ {
				times[a.Primary(view)]++
			}
			for replica := range a.N() {
				if times[replica] != 1 || !a.Replica(replica) {
					t.Errorf("F %d, from view %d on: replica %d is it %d times", f, first, replica, times[replica])
				}
			}
		}
	}
}
