package authn_test

import (
	"math"
	"testing"

	"quaestor/api"
	"quaestor/authn"
)

// strangers are nobody's numbers, whoever the replicas and clients are: those of the ends of an int among them.
func strangers() []int {
	return []int{
		math.MinInt, math.MinInt + 1, math.MinInt + api.ClientBase, math.MinInt + api.ClientBase + 1, math.MinInt32,
		-api.ClientBase, -2, -1, 3*api.MaxF + 1, 8, 500, api.ClientBase - 1, api.ClientBase + api.MaxClients,
		2 * api.ClientBase, math.MaxInt32, math.MaxInt32 + 1, 1 << 32, 1<<32 + 1, 1<<32 + api.ClientBase, math.MaxInt - 1, math.MaxInt,
	}
}

// counts are the numbers that an authority tells.
type counts struct {
	n, f, clients, quorum, weak int
}

// countsOf asks for all of them.
func countsOf(a *authn.Authority) counts {
	return counts{a.N(), a.F(), a.Clients(), a.Quorum(), a.Weak()}
}

// TestNew is of promise 3.1: the numbers, from each limit to the other.
func TestNew(t *testing.T) {
	for _, x := range []struct {
		f, clients int
		want       counts
	}{
		{0, 0, counts{1, 0, 0, 1, 1}},
		{0, 3, counts{1, 0, 3, 1, 1}},
		{1, 2, counts{4, 1, 2, 3, 2}},
		{1, 0, counts{4, 1, 0, 3, 2}},
		{2, 1, counts{7, 2, 1, 5, 3}},
		{api.MaxF, api.MaxClients, counts{3*api.MaxF + 1, api.MaxF, api.MaxClients, 2*api.MaxF + 1, api.MaxF + 1}},
	} {
		a := authn.New(x.f, x.clients)
		if got := countsOf(a); got != x.want || a.Signed() != 0 {
			t.Errorf("%d, %d: %+v and %d signed, want %+v and 0", x.f, x.clients, got, a.Signed(), x.want)
		}
	}
}

// TestNewBeyond is of promise 3.1: what is below or above the limits is these.
func TestNewBeyond(t *testing.T) {
	for _, x := range []struct{ f, clients, wantF, wantClients int }{
		{-1, 2, 0, 2},
		{1, -1, 1, 0},
		{math.MinInt, math.MinInt, 0, 0},
		{api.MaxF + 1, 2, api.MaxF, 2},
		{1, api.MaxClients + 1, 1, api.MaxClients},
		{math.MaxInt, math.MaxInt, api.MaxF, api.MaxClients},
		{-1, math.MaxInt, 0, api.MaxClients},
		{math.MaxInt, -1, api.MaxF, 0},
	} {
		got, want := countsOf(authn.New(x.f, x.clients)), countsOf(authn.New(x.wantF, x.wantClients))
		if got != want || got.f != x.wantF || got.clients != x.wantClients {
			t.Errorf("%d, %d: %+v, want %+v", x.f, x.clients, got, want)
		}
	}
}

// TestPrimary is of promise 3.1: the view modulo N; 0 below view 0.
func TestPrimary(t *testing.T) {
	for _, x := range []struct{ f, view, want int }{
		{0, 0, 0}, {0, 1, 0}, {0, math.MaxInt, 0},
		{1, 0, 0}, {1, 1, 1}, {1, 3, 3}, {1, 4, 0}, {1, 6, 2}, {1, math.MaxInt, 3},
		{2, 6, 6}, {2, 7, 0}, {2, 15, 1}, {2, math.MaxInt, 0},
		{0, -1, 0}, {1, -1, 0}, {1, -3, 0}, {1, -4, 0}, {2, -5, 0}, {1, math.MinInt, 0}, {2, math.MinInt, 0},
	} {
		if got := authn.New(x.f, 2).Primary(x.view); got != x.want {
			t.Errorf("F %d, view %d: %d, want %d", x.f, x.view, got, x.want)
		}
	}
}

// TestWho is of promise 3.1: of all authorities, who is a replica, who is a client, and of which organization.
func TestWho(t *testing.T) {
	for f := range api.MaxF + 1 {
		for clients := range api.MaxClients + 1 {
			a := authn.New(f, clients)
			for signer := -10; signer < 3*api.MaxF+10; signer++ {
				replica := signer >= 0 && signer <= 3*f
				who(t, a, signer, replica, replica, -1)
			}
			for i := -10; i < api.MaxClients+10; i++ {
				if i < 0 || i >= clients {
					who(t, a, api.ClientBase+i, false, false, -1)
				} else {
					who(t, a, api.ClientBase+i, true, false, []int{0, 1, 2, 3, 0, 1, 2, 3}[i])
				}
			}
			for _, signer := range strangers() {
				who(t, a, signer, false, false, -1)
			}
		}
	}
}

// who fails if the authority tells something else of a signer.
func who(t *testing.T, a *authn.Authority, signer int, known, replica bool, org int) {
	t.Helper()
	if a.Known(signer) != known || a.Replica(signer) != replica || a.Org(signer) != org {
		t.Errorf("%+v: of %d: %t, %t, %d, want %t, %t, %d", countsOf(a), signer, a.Known(signer), a.Replica(signer), a.Org(signer), known, replica, org)
	}
}

// TestNobody is of the chapter's last words and rule R1: a nil authority, and one that New did not make, know nobody.
func TestNobody(t *testing.T) {
	for name, a := range nobodies() {
		t.Run(name, func(t *testing.T) {
			for _, signer := range append(strangers(), 0, 1, 3, 6, api.ClientBase, api.ClientBase+1, api.ClientBase+7) {
				who(t, a, signer, false, false, -1)
			}
			if got := countsOf(a); got != (counts{}) {
				t.Errorf("%+v", got)
			}
			for _, view := range []int{0, 1, 4, 7, -1, math.MinInt, math.MaxInt} {
				if got := a.Primary(view); got != 0 {
					t.Errorf("view %d: %d", view, got)
				}
			}
		})
	}
}

// nobodies are authorities that know nobody.
func nobodies() map[string]*authn.Authority {
	return map[string]*authn.Authority{"nil": nil, "not made": {}}
}
