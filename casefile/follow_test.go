package casefile_test

import (
	"math"
	"math/rand"
	"slices"
	"testing"

	"quaestor/api"
	"quaestor/casefile"
	"quaestor/contract"
)

// dice pick what is done next.
type dice struct{ *rand.Rand }

// contract makes loan with other stages, and moves between them.
func (d dice) contract() api.Contract {
	c := loan()
	for i := range c.Stages {
		s := &c.Stages[i]
		s.Orgs = nil
		for org := range api.Orgs {
			if d.Intn(2) == 0 {
				s.Orgs = append(s.Orgs, org)
			}
		}
		s.Need = d.Intn(len(s.Orgs) + 1)
	}
	from := 1 + d.Intn(len(c.Stages)) // no move leads from the stages behind
	for i := range c.Moves {
		m := &c.Moves[i]
		m.From, m.To, m.Org = d.Intn(from), d.Intn(len(c.Stages)), d.Intn(api.Orgs+1)-1
	}
	return c
}

// call makes one of a case; what may not be done, or not so, is among them.
func (d dice) call(c api.Contract, k api.Case) call {
	x := call{c: c, k: k, do: d.Intn(12), org: d.Intn(api.Orgs)}
	switch d.Intn(8) {
	case 0, 1:
		x.do = api.DoAdvance
	case 2, 3:
		x.do = api.DoEndorse
	case 4:
		x.org = d.Intn(8) - 2
	}
	x.v = []api.Value{
		integer(0), integer(int64(d.Intn(5) - 2)), integer(math.MaxInt64), integer(math.MinInt64), truth(d.Intn(2) == 0),
		text("new"), text("old"), text("none"), num(math.NaN()), num(0.5), {}, text(long(api.MaxText + 1)),
	}[d.Intn(12)]
	if x.do == api.DoAdvance {
		x.name = append(c.Moves, api.Move{Name: "none"})[d.Intn(len(c.Moves)+1)].Name
	} else {
		x.name = append(c.Fields, api.Field{Name: "none"})[d.Intn(len(c.Fields)+1)].Name
	}
	return x
}

// walk is a case on its way, and who has endorsed since it was changed last.
type walk struct {
	c     api.Contract
	k     api.Case
	since []int
	met   map[met]int
}

// met is what a deed came to.
type met struct {
	do  int
	err api.Errno
}

// step holds what comes of a call to what must be so of every one.
func (w *walk) step(t *testing.T, x call) {
	got, err := x.done()
	w.met[met{x.do, err}]++
	if err != api.OK {
		if !alike(got, w.k) {
			t.Fatalf("error %d of deed %d tells %+v, not %+v", err, x.do, got, w.k)
		}
		return
	}
	switch {
	case !casefile.Right(w.c, got):
		t.Fatalf("not right: %+v, by deed %d of %+v", got, x.do, w.k)
	case got.Steps != w.k.Steps+1 || got.Id != w.k.Id || got.Contract != w.k.Contract:
		t.Fatalf("%+v, by deed %d of %+v", got, x.do, w.k)
	case w.k.Closed && x.do != api.DoReopen:
		t.Fatalf("deed %d is done to a closed case", x.do)
	case got.Stage != w.k.Stage && x.do != api.DoAdvance && x.do != api.DoReopen:
		t.Fatalf("deed %d leads from stage %d to %d", x.do, w.k.Stage, got.Stage)
	}
	w.leave(t, x)
	w.k = got
	switch x.do {
	case api.DoUpdate, api.DoAdvance, api.DoReopen:
		w.since = nil
	case api.DoEndorse:
		w.since = append(w.since, x.org)
	}
	if !slices.Equal(got.Endorsed, slices.Sorted(slices.Values(w.since))) {
		t.Fatalf("deed %d: endorsed by %v, since it was changed by %v", x.do, got.Endorsed, w.since)
	}
}

// leave asks whether a stage may be left: as many of its organizations must have endorsed as it needs.
func (w *walk) leave(t *testing.T, x call) {
	if x.do != api.DoAdvance {
		return
	}
	s := w.c.Stages[w.k.Stage]
	count := 0
	for _, org := range s.Orgs {
		if slices.Contains(w.since, org) {
			count++
		}
	}
	if count < s.Need || w.k.Closed || w.k.Suspended {
		t.Fatalf("%+v is left, endorsed by %v: %+v", s, w.since, w.k)
	}
}

// TestWalks is of promise 7.3: on whatever way, a right case stays right, a stage is left only when enough have endorsed since the last change, and a closed case is but reopened.
func TestWalks(t *testing.T) {
	d := dice{rand.New(rand.NewSource(7))}
	all := map[met]int{}
	for range 600 {
		c := d.contract()
		if err := contract.Check(c); err != api.OK {
			t.Fatalf("error %d of %+v", err, c)
		}
		k, err := casefile.New(c, "k")
		if err != api.OK || !casefile.Right(c, k) {
			t.Fatalf("%+v, error %d", k, err)
		}
		w := &walk{c: c, k: k, met: all}
		for range 300 {
			w.step(t, d.call(c, w.k))
		}
	}
	errs := map[int][]api.Errno{
		0:             {api.ErrArg},
		api.DoUpdate:  {api.OK, api.ErrArg, api.ErrClosed, api.ErrSuspended, api.ErrOrg, api.ErrName, api.ErrType, api.ErrField},
		api.DoEndorse: {api.OK, api.ErrArg, api.ErrClosed, api.ErrSuspended, api.ErrOrg, api.ErrExists},
		api.DoAdvance: {api.OK, api.ErrArg, api.ErrClosed, api.ErrSuspended, api.ErrName, api.ErrStage, api.ErrOrg, api.ErrEndorse, api.ErrGuard, api.ErrZero, api.ErrOver, api.ErrField},
		api.DoSuspend: {api.OK, api.ErrArg, api.ErrClosed, api.ErrSuspended},
		api.DoResume:  {api.OK, api.ErrArg, api.ErrClosed, api.ErrOpen},
		api.DoClose:   {api.OK, api.ErrArg, api.ErrClosed, api.ErrSuspended, api.ErrStage},
		api.DoReopen:  {api.OK, api.ErrArg, api.ErrOpen},
		1:             {api.ErrArg}, 2: {api.ErrArg}, 10: {api.ErrArg}, 11: {api.ErrArg},
	}
	for do, l := range errs {
		for _, err := range l {
			if all[met{do, err}] == 0 {
				t.Errorf("deed %d never came to %d", do, err)
			}
			delete(all, met{do, err})
		}
	}
	if len(all) != 0 {
		t.Errorf("met what must not be: %v", all)
	}
}

// TestChangesUndoEndorsements is of promise 7.3: what was endorsed ahead of a change does not count behind it.
func TestChangesUndoEndorsements(t *testing.T) {
	for _, y := range []struct {
		do   int
		name string
		want api.Errno
	}{
		{api.DoUpdate, "sum", api.ErrEndorse},
		{api.DoAdvance, "stay", api.ErrEndorse},
		{api.DoSuspend, "", api.OK},
	} {
		x := call{c: loan(), k: opened(pay), v: integer(4), org: 0}
		for _, org := range []int{3, 1} {
			x.do, x.org = api.DoEndorse, org
			x.k = x.must(t)
		}
		x.do, x.name = y.do, y.name
		x.k = x.must(t)
		if y.do == api.DoSuspend {
			x.do = api.DoResume
			x.k = x.must(t)
		}
		x.do, x.name = api.DoAdvance, "swap"
		if k, err := x.done(); err != y.want {
			t.Errorf("deed %d: %+v, error %d, want %d", y.do, k, err, y.want)
		}
	}
}
