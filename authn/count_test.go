package authn_test

import (
	"slices"
	"testing"

	"quaestor/api"
	"quaestor/authn"
)

// TestCount is of promise 3.3: distinct replicas alone count.
func TestCount(t *testing.T) {
	for _, x := range []struct {
		f       int
		signers []int
		want    int
	}{
		{1, nil, 0}, {1, []int{}, 0},
		{1, []int{0}, 1}, {1, []int{3}, 1}, {1, []int{4}, 0}, {1, []int{-1}, 0}, {1, []int{1000}, 0},
		{1, []int{0, 0, 3, 4, -1}, 2},
		{1, []int{2, 2, 2, 2, 2, 2, 2}, 1},
		{1, []int{3, 2, 1, 0, 1, 2, 3}, 4},
		{1, []int{4, 1000, 5, 1001, 1, 1002}, 1},
		{2, []int{6, 5, 4, 3, 2, 1, 0, 7}, 7},
		{2, []int{0, 4, 6, 4, 7, 1000}, 3},
		{0, []int{0, 0, 1, 2}, 1}, {0, []int{1, 2, 3}, 0},
		{1, strangers(), 0}, {2, append(strangers(), 6), 1},
	} {
		ahead := slices.Clone(x.signers)
		if got := authn.New(x.f, 2).Count(x.signers); got != x.want || !slices.Equal(ahead, x.signers) {
			t.Errorf("F %d, %v: %d, want %d", x.f, x.signers, got, x.want)
		}
	}
	many := make([]int, 100000)
	many[99999] = 1
	if got := authn.New(1, 2).Count(many); got != 2 {
		t.Errorf("%d, want 2", got)
	}
}

// by makes envelopes of these signers; the bytes are no two's the same.
func by(signers ...int) []api.Envelope {
	var l []api.Envelope
	for i, signer := range signers {
		l = append(l, api.Envelope{Signer: signer, Body: []byte{byte(i)}})
	}
	return l
}

// TestDistinct is of promise 3.3: the first envelope whose signer is no replica, or stands ahead of it.
func TestDistinct(t *testing.T) {
	for _, x := range []struct {
		f       int
		signers []int
		want    api.Errno
	}{
		{1, nil, api.OK}, {1, []int{0}, api.OK}, {1, []int{3, 1, 2, 0}, api.OK}, {2, []int{0, 6, 5, 1, 4, 2, 3}, api.OK}, {0, []int{0}, api.OK},
		{1, []int{4}, api.ErrSigner}, {1, []int{-1}, api.ErrSigner}, {1, []int{1000}, api.ErrSigner}, {0, []int{1}, api.ErrSigner}, {2, []int{7}, api.ErrSigner},
		{1, []int{0, 1, 2, 3, 4}, api.ErrSigner},
		{1, []int{1, 1}, api.ErrTwice}, {1, []int{0, 0}, api.ErrTwice}, {1, []int{0, 1, 2, 3, 0}, api.ErrTwice}, {1, []int{0, 1, 2, 3, 3}, api.ErrTwice},
		{2, []int{6, 0, 5, 6}, api.ErrTwice}, {0, []int{0, 0}, api.ErrTwice},
		{1, []int{1, 1, 4}, api.ErrTwice}, {1, []int{4, 1, 1}, api.ErrSigner}, {1, []int{1, 4, 1}, api.ErrSigner},
		{1, []int{4, 4}, api.ErrSigner}, {1, []int{1000, 1000}, api.ErrSigner}, {1, []int{0, -1, -1}, api.ErrSigner},
	} {
		if got := authn.New(x.f, 2).Distinct(by(x.signers...)); got != x.want {
			t.Errorf("F %d, %v: error %d, want %d", x.f, x.signers, got, x.want)
		}
	}
	for _, signer := range strangers() {
		if got := authn.New(2, 8).Distinct(by(0, 1, signer)); got != api.ErrSigner {
			t.Errorf("%d: error %d", signer, got)
		}
	}
}

// TestDistinctEmpty is of promise 3.3 and rule R3: a list that is empty is right, nil or not.
func TestDistinctEmpty(t *testing.T) {
	for _, l := range [][]api.Envelope{nil, {}} {
		if got := authn.New(0, 0).Distinct(l); got != api.OK {
			t.Errorf("error %d", got)
		}
	}
}

// TestDistinctUnsigned is of promise 3.3: it asks for nothing but the signers, whatever the bytes are, and signs nothing; the list stays (R4).
func TestDistinctUnsigned(t *testing.T) {
	a := authn.New(1, 2)
	l := by(2, 0, 1, 2)
	if got := a.Distinct(l[:3]); got != api.OK {
		t.Errorf("error %d", got)
	}
	same := []api.Envelope{{Signer: 1, Body: []byte("x")}, {Signer: 2, Body: []byte("x")}, {Signer: 3}}
	if got := a.Distinct(same); got != api.OK {
		t.Errorf("error %d", got)
	}
	if a.Signed() != 0 || a.Check(l[0]) != api.ErrSigned {
		t.Error("it has signed")
	}
	for i, e := range l {
		if e.Signer != []int{2, 0, 1, 2}[i] || len(e.Body) != 1 || e.Body[0] != byte(i) {
			t.Errorf("%d: %+v", i, e)
		}
	}
}

// TestNobodyCounts is of the chapter's last words and rule R1: where nobody is known nobody counts, and only a list that is empty is right.
func TestNobodyCounts(t *testing.T) {
	for name, a := range nobodies() {
		t.Run(name, func(t *testing.T) {
			if got := a.Count([]int{0, 1, 2, 3, 1000, -1}); got != 0 || a.Count(nil) != 0 {
				t.Errorf("%d", got)
			}
			if a.Distinct(nil) != api.OK || a.Distinct([]api.Envelope{}) != api.OK {
				t.Error("a list that is empty is not right")
			}
			for _, l := range [][]api.Envelope{by(0), by(1000), by(-1), by(1, 1)} {
				if got := a.Distinct(l); got != api.ErrSigner {
					t.Errorf("%+v: error %d", l, got)
				}
			}
		})
	}
}
