package casefile_test

import (
	"fmt"
	"math"
	"slices"
	"testing"

	"quaestor/api"
	"quaestor/casefile"
)

// becomes holds a call to the case that must come of it, but for its steps, of which there must be one more.
func (x call) becomes(t *testing.T, want api.Case) {
	t.Helper()
	want.Steps = x.k.Steps + 1
	if got := x.must(t); !alike(got, want) {
		t.Errorf("deed %d, %q by %d: %+v, want %+v, of %+v", x.do, x.name, x.org, got, want, x.k)
	}
}

// TestUpdate is of promise 7.2: the field is the value, all else stays, and nobody has endorsed.
func TestUpdate(t *testing.T) {
	for place, l := range [][]api.Value{
		{text("new"), text("old")},
		{integer(0), integer(9), integer(math.MinInt64), integer(math.MaxInt64)},
		{integer(-1)},
		{truth(true), truth(false)},
		{num(0), num(math.Copysign(0, -1)), num(math.NaN()), num(math.Float64frombits(math.MaxUint64)), num(math.Inf(1))},
		{text(""), text("x"), text("new"), text(long(api.MaxText))},
	} {
		for _, v := range l {
			for _, k := range []api.Case{opened(ask), opened(pay), opened(pay, 0, 1, 3), opened(pay, 1), opened(shut, 0, 2)} {
				x := call{c: loan(), k: k, do: api.DoUpdate, name: loan().Fields[place].Name, v: v, org: 0}
				want := cloneCase(k)
				want.Values[place], want.Endorsed = v, nil
				x.becomes(t, want)
			}
		}
	}
}

// TestUpdateByWhom is of promise 7.2: a stage's organizations may, and where it has none all may.
func TestUpdateByWhom(t *testing.T) {
	for stage, s := range loan().Stages {
		for org := range api.Orgs {
			x := call{c: loan(), k: opened(stage), do: api.DoUpdate, name: "sum", v: integer(1), org: org}
			if len(s.Orgs) > 0 && !slices.Contains(s.Orgs, org) {
				x.refused(t, fmt.Sprintf("stage %d by %d", stage, org), api.ErrOrg)
				continue
			}
			want := opened(stage)
			want.Values[1] = integer(1)
			x.becomes(t, want)
		}
	}
}

// TestEndorse is of promise 7.2: in whatever order organizations endorse, they rise; a second time is once too often, and others may not.
func TestEndorse(t *testing.T) {
	for _, order := range [][]int{{0, 1, 3}, {0, 3, 1}, {1, 0, 3}, {1, 3, 0}, {3, 0, 1}, {3, 1, 0}} {
		x := call{c: loan(), k: opened(pay), do: api.DoEndorse}
		for i, org := range order {
			want := cloneCase(x.k)
			want.Endorsed = slices.Sorted(slices.Values(order[:i+1]))
			x.org = org
			x.becomes(t, want)
			x.k = x.must(t)
			x.refused(t, "a second time", api.ErrExists)
			for _, ahead := range order[:i] {
				x.org = ahead
				x.refused(t, "a second time, but others between", api.ErrExists)
			}
			x.org = 2
			x.refused(t, "another one", api.ErrOrg)
		}
	}
	for org := range api.Orgs {
		call{c: loan(), k: opened(ask), do: api.DoEndorse, org: org}.refused(t, "a stage of nobody", api.ErrOrg)
	}
	call{c: loan(), k: opened(end), do: api.DoEndorse, org: 2}.becomes(t, opened(end, 2))
}

// TestAdvance is of promise 7.2: the stage is the move's, the fields are what the effects tell, all else stays, and nobody has endorsed.
func TestAdvance(t *testing.T) {
	advance := func(k api.Case, name string, org int) call {
		return call{c: loan(), k: k, do: api.DoAdvance, name: name, org: org}
	}
	advance(opened(ask), "grant", 0).becomes(t, opened(pay))
	advance(opened(pay, 0, 1), "back", 2).becomes(t, opened(ask))
	advance(opened(pay, 1, 3), "stay", 2).becomes(t, opened(pay))
	want := opened(end)
	want.Values[1], want.Values[2], want.Values[3] = integer(3), integer(9), truth(true)
	advance(opened(pay, 0, 3), "swap", 1).becomes(t, want)
	advance(opened(end), "share", 0).becomes(t, opened(end))
	want = opened(end)
	want.Values[1] = integer(18)
	advance(opened(end, 2), "double", 3).becomes(t, want)
	want = opened(end)
	want.Values[0] = text("new")
	advance(opened(end, 2), "name", 2).becomes(t, want)
	paid := opened(end)
	paid.Values[3] = truth(true)
	want = cloneCase(paid)
	want.Stage = shut
	advance(paid, "shut", 1).becomes(t, want)
}

// TestAdvanceFrom is of promise 7.2: a move is made from the one stage that it leads from.
func TestAdvanceFrom(t *testing.T) {
	for _, m := range loan().Moves {
		for stage, s := range loan().Stages {
			x := call{c: loan(), k: opened(stage, s.Orgs...), do: api.DoAdvance, name: m.Name, org: 2}
			x.k.Values[3] = truth(m.Name == "shut")
			if m.From != stage {
				x.refused(t, fmt.Sprintf("%s from %d", m.Name, stage), api.ErrStage)
			} else if got := x.must(t); got.Stage != m.To {
				t.Errorf("%s from %d leads to %d", m.Name, stage, got.Stage)
			}
		}
	}
}

// TestAdvanceByWhom is of promise 7.2: a move is for any, or for one, be it of the stage's or not.
func TestAdvanceByWhom(t *testing.T) {
	for bound := -1; bound < api.Orgs; bound++ {
		for org := range api.Orgs {
			x := call{c: loan(), k: opened(pay, 0, 1), do: api.DoAdvance, name: "stay", org: org}
			x.c.Moves[2].Org = bound
			if bound != -1 && bound != org {
				x.refused(t, fmt.Sprintf("for %d by %d", bound, org), api.ErrOrg)
				continue
			}
			x.becomes(t, opened(pay))
		}
	}
}

// TestAdvanceNeeds is of promise 7.2: as many as the stage needs are enough, whoever they are, and one fewer is not.
func TestAdvanceNeeds(t *testing.T) {
	for _, orgs := range [][]int{nil, {0}, {1}, {3}, {0, 1}, {0, 3}, {1, 3}, {0, 1, 3}} {
		for need := range 4 {
			x := call{c: loan(), k: opened(pay, orgs...), do: api.DoAdvance, name: "stay", org: 1}
			x.c.Stages[pay].Need = need
			if len(orgs) < need {
				x.refused(t, fmt.Sprintf("%d of %v", need, orgs), api.ErrEndorse)
				continue
			}
			x.becomes(t, opened(pay))
		}
	}
}

// TestGuard is of promise 7.2: it is reckoned out over the case's fields, as far as it must be.
func TestGuard(t *testing.T) {
	less := op(api.OpLess, field("rest"), field("sum"))
	for _, y := range []struct {
		guard     api.Expr
		sum, rest int64
		want      api.Errno
	}{
		{yes(), 0, 0, api.OK},
		{no(), 0, 0, api.ErrGuard},
		{less, 2, 1, api.OK},
		{less, 1, 1, api.ErrGuard},
		{less, 1, 2, api.ErrGuard},
		{tell(zero()), 0, 0, api.ErrZero},
		{tell(over()), 0, 0, api.ErrOver},
		{tell(op(api.OpDiv, field("sum"), field("rest"))), 1, 0, api.ErrZero},
		{tell(op(api.OpDiv, field("sum"), field("rest"))), math.MinInt64, -1, api.ErrOver},
		{tell(op(api.OpDiv, field("sum"), field("rest"))), 7, 2, api.OK},
		{op(api.OpAnd, no(), tell(zero())), 0, 0, api.ErrGuard},
		{op(api.OpOr, yes(), tell(zero())), 0, 0, api.OK},
		{op(api.OpAnd, tell(zero()), no()), 0, 0, api.ErrZero},
		{op(api.OpEq, constant(num(math.NaN())), constant(num(math.NaN()))), 0, 0, api.ErrGuard},
	} {
		x := call{c: loan(), k: opened(end, 2), do: api.DoAdvance, name: "share"}
		x.c.Moves[4].Guard = y.guard
		x.k.Values[1], x.k.Values[2] = integer(y.sum), integer(y.rest)
		if y.want != api.OK {
			x.refused(t, fmt.Sprintf("%d, %d", y.sum, y.rest), y.want)
			continue
		}
		want := cloneCase(x.k)
		want.Endorsed = nil
		x.becomes(t, want)
	}
}

// effect is a move's effect on a field.
func effect(name string, e api.Expr) api.Effect { return api.Effect{Field: name, Expr: e} }

// withEffects is an advance by a move of these effects.
func withEffects(effects ...api.Effect) call {
	x := call{c: loan(), k: opened(end, 2), do: api.DoAdvance, name: "double"}
	x.c.Moves[5].Effects = effects
	return x
}

// TestEffects is of promise 7.2: all of them tell over the values of before.
func TestEffects(t *testing.T) {
	become := func(x call, values ...api.Value) {
		t.Helper()
		want := opened(end)
		want.Values = values
		x.becomes(t, want)
	}
	state, sum, rest, paid, rate, note := text("old"), integer(9), integer(3), truth(false), num(-2.5), text("new")
	become(withEffects(), state, sum, rest, paid, rate, note)
	become(withEffects(effect("sum", field("rest")), effect("rest", field("sum"))), state, rest, sum, paid, rate, note)
	become(withEffects(effect("rest", field("sum")), effect("sum", field("rest"))), state, rest, sum, paid, rate, note)
	become(withEffects(effect("note", field("state")), effect("state", field("note"))), note, sum, rest, paid, rate, state)
	next := op(api.OpAdd, field("sum"), constant(integer(1)))
	become(withEffects(effect("sum", next), effect("rest", next)), state, integer(10), integer(10), paid, rate, note)
	become(withEffects(effect("rest", next), effect("sum", next)), state, integer(10), integer(10), paid, rate, note)
	less := op(api.OpLess, field("rest"), field("sum"))
	become(withEffects(effect("sum", constant(integer(0))), effect("paid", less), effect("rate", op(api.OpNum, field("sum"))), effect("state", constant(text("new")))),
		text("new"), integer(0), rest, truth(true), num(9), note)
	become(withEffects(effect("rate", constant(num(math.Copysign(0, -1))))), state, sum, rest, paid, num(math.Copysign(0, -1)), note)
	become(withEffects(effect("rate", op(api.OpDiv, constant(num(0)), constant(num(0))))), state, sum, rest, paid, num(math.NaN()), note)
	become(withEffects(effect("note", constant(text(long(api.MaxText))))), state, sum, rest, paid, rate, text(long(api.MaxText)))
}

// TestEffectsErrors is of promise 7.2: effect by effect, its error and that of its value; the first one is told, and nothing is done.
func TestEffectsErrors(t *testing.T) {
	good := effect("paid", yes())
	none := effect("state", constant(text("none")))
	naught, beyond := effect("sum", zero()), effect("rest", over())
	for i, y := range []struct {
		effects []api.Effect
		want    api.Errno
	}{
		{[]api.Effect{none}, api.ErrField},
		{[]api.Effect{naught}, api.ErrZero},
		{[]api.Effect{beyond}, api.ErrOver},
		{[]api.Effect{good, none}, api.ErrField},
		{[]api.Effect{good, naught}, api.ErrZero},
		{[]api.Effect{good, beyond}, api.ErrOver},
		{[]api.Effect{none, good}, api.ErrField},
		{[]api.Effect{naught, good}, api.ErrZero},
		{[]api.Effect{none, naught}, api.ErrField},
		{[]api.Effect{none, beyond}, api.ErrField},
		{[]api.Effect{naught, none}, api.ErrZero},
		{[]api.Effect{beyond, none}, api.ErrOver},
		{[]api.Effect{naught, beyond}, api.ErrZero},
		{[]api.Effect{beyond, naught}, api.ErrOver},
		{[]api.Effect{good, effect("rate", field("rate")), beyond, none}, api.ErrOver},
		{[]api.Effect{effect("sum", op(api.OpIf, no(), zero(), over()))}, api.ErrOver},
		{[]api.Effect{effect("state", op(api.OpIf, tell(zero()), constant(text("none")), constant(text("none"))))}, api.ErrZero},
	} {
		withEffects(y.effects...).refused(t, fmt.Sprintf("effects %d", i), y.want)
	}
	x := withEffects(effect("note", field("state")), effect("state", field("note")))
	x.k.Values[5] = text("none")
	x.refused(t, "a text that is none of the field's", api.ErrField)
	x.k.Values[0], x.k.Values[5] = text("new"), text("old")
	want := cloneCase(x.k)
	want.Values[0], want.Values[5], want.Endorsed = text("old"), text("new"), nil
	x.becomes(t, want)
}

// TestStandings is of promise 7.2: which of the seven may be done to a case that is closed, suspended, or neither, in each stage, and what comes of those that ask no more.
func TestStandings(t *testing.T) {
	for stage, s := range loan().Stages {
		for org := range api.Orgs {
			k := opened(stage, s.Orgs...)
			reopened := opened(ask)
			for _, y := range []struct {
				k    api.Case
				do   int
				want api.Errno
				told api.Case
			}{
				{k, api.DoSuspend, api.OK, suspended(k)},
				{k, api.DoResume, api.ErrOpen, k},
				{k, api.DoReopen, api.ErrOpen, k},
				{suspended(k), api.DoUpdate, api.ErrSuspended, suspended(k)},
				{suspended(k), api.DoEndorse, api.ErrSuspended, suspended(k)},
				{suspended(k), api.DoAdvance, api.ErrSuspended, suspended(k)},
				{suspended(k), api.DoSuspend, api.ErrSuspended, suspended(k)},
				{suspended(k), api.DoResume, api.OK, k},
				{suspended(k), api.DoClose, api.ErrSuspended, suspended(k)},
				{suspended(k), api.DoReopen, api.ErrOpen, suspended(k)},
				{closed(k), api.DoUpdate, api.ErrClosed, closed(k)},
				{closed(k), api.DoEndorse, api.ErrClosed, closed(k)},
				{closed(k), api.DoAdvance, api.ErrClosed, closed(k)},
				{closed(k), api.DoSuspend, api.ErrClosed, closed(k)},
				{closed(k), api.DoResume, api.ErrClosed, closed(k)},
				{closed(k), api.DoClose, api.ErrClosed, closed(k)},
				{closed(k), api.DoReopen, api.OK, reopened},
			} {
				x := call{c: loan(), k: y.k, do: y.do, org: org}
				if y.want != api.OK {
					x.refused(t, fmt.Sprintf("deed %d in stage %d", y.do, stage), y.want)
					continue
				}
				x.becomes(t, y.told)
			}
		}
	}
}

// TestClose is of promise 7.2: a case is closed where no move leads on, by whomever, and those who have endorsed stay.
func TestClose(t *testing.T) {
	for stage, s := range loan().Stages {
		for org := range api.Orgs {
			x := call{c: loan(), k: opened(stage, s.Orgs...), do: api.DoClose, org: org}
			if stage != shut {
				x.refused(t, fmt.Sprintf("stage %d", stage), api.ErrStage)
				x.c.Moves = nil
			}
			x.becomes(t, closed(x.k))
		}
	}
	x := call{c: loan(), k: opened(shut), do: api.DoClose}
	x.c.Moves[7] = api.Move{Name: "rest", From: shut, To: shut, Org: 3, Guard: no()}
	x.refused(t, "a move leads back, for another one, where it is never true", api.ErrStage)
	call{c: bare(), k: api.Case{Id: "k", Contract: "c"}, do: api.DoClose}.becomes(t, api.Case{Id: "k", Contract: "c", Closed: true})
}

// TestNameAndValueCount is of promise 7.2: a name counts with two of the seven, a value with one of them.
func TestNameAndValueCount(t *testing.T) {
	for _, do := range deeds() {
		x := fine(do)
		want := x.must(t)
		var likes []call
		for _, name := range []string{"", "none", long(1000), "sum", "swap"} {
			y := x.clone()
			y.name = name
			if do != api.DoUpdate && do != api.DoAdvance {
				likes = append(likes, y)
			}
		}
		for _, v := range []api.Value{{}, {Kind: -1, Int: 3}, text(long(1000)), num(math.NaN())} {
			y := x.clone()
			y.v = v
			if do != api.DoUpdate {
				likes = append(likes, y)
			}
		}
		for _, y := range likes {
			if got := y.must(t); !alike(got, want) {
				t.Errorf("deed %d with %q, %+v: %+v, want %+v", do, y.name, y.v, got, want)
			}
		}
	}
}

// TestSteps is of promise 7.2: each deed is one step more, up to the most, and then no more.
func TestSteps(t *testing.T) {
	for _, do := range deeds() {
		for _, n := range []int{0, 1, 1 << 31, 1 << 32, mostSteps - 2, mostSteps - 1} {
			x := fine(do)
			x.k.Steps = n
			if got := x.must(t); got.Steps != n+1 {
				t.Errorf("deed %d: %d steps, then %d", do, n, got.Steps)
			}
		}
		x := fine(do)
		x.k.Steps = mostSteps
		x.refused(t, "full", api.ErrFull)
	}
}

// TestDoNothing is of promise 7.2: what is none of the seven is not done.
func TestDoNothing(t *testing.T) {
	for _, do := range []int{0, -1, api.DoDeploy, api.DoOpen, 10, 11, math.MaxInt, math.MinInt, 1<<32 + api.DoSuspend} {
		for _, x := range rights() {
			x.do = do
			x.refused(t, fmt.Sprintf("deed %d", do), api.ErrArg)
		}
	}
}

// TestDoKeepsWhatItIsHanded is of promise 7.2 by rules R4 and R5: what is handed in stays, behind a list's end, too, and the same is told again; no answer shares memory.
func TestDoKeepsWhatItIsHanded(t *testing.T) {
	var l []call
	for _, x := range rights() {
		for _, do := range append(deeds(), 0) {
			for _, name := range []string{"sum", "stay", "swap", "double", "name", "none"} {
				for org := range api.Orgs {
					l = append(l, call{c: x.c, k: x.k, do: do, name: name, v: integer(1), org: org})
				}
			}
		}
	}
	odd := fine(api.DoUpdate)
	odd.k.Values, odd.k.Endorsed = make([]api.Value, 3), []int{9, 9, -1}
	for _, x := range append(l, odd) {
		was := x.clone()
		values := append(slices.Clone(x.k.Values), integer(77), integer(78))
		endorsed := append(slices.Clone(x.k.Endorsed), 77, 78)
		x.k.Values, x.k.Endorsed = values[:len(values)-2], endorsed[:len(endorsed)-2]
		one, err := x.done()
		want := cloneCase(one)
		two, again := x.done()
		scribble(one)
		if !alike(two, want) || again != err {
			t.Fatalf("%+v, error %d, then %+v, error %d", want, err, two, again)
		}
		if !alike(x.k, was.k) || values[len(values)-2] != integer(77) || values[len(values)-1] != integer(78) || endorsed[len(endorsed)-2] != 77 || endorsed[len(endorsed)-1] != 78 {
			t.Fatalf("deed %d: %+v was %+v; %v, %v", x.do, x.k, was.k, values, endorsed)
		}
		if fmt.Sprintf("%+v", x.c) != fmt.Sprintf("%+v", was.c) {
			t.Fatalf("deed %d: %+v was %+v", x.do, x.c, was.c)
		}
		scribble(x.k)
		if !alike(two, want) {
			t.Fatalf("deed %d: an answer shares what was handed in", x.do)
		}
	}
}

// scribble writes over all that a case's lists have, and behind their ends.
func scribble(k api.Case) {
	for i := range k.Values {
		k.Values[i] = integer(-99)
	}
	for i := range k.Endorsed {
		k.Endorsed[i] = -99
	}
	_ = append(k.Values, integer(-99))
	_ = append(k.Endorsed, -99)
}

// TestDoOfNothing is of promise 7.2 by rule R1: of nothing nothing is done, and nothing panics.
func TestDoOfNothing(t *testing.T) {
	for do := -1; do < 12; do++ {
		call{do: do}.refused(t, "nothing", api.ErrArg)
		call{c: loan(), do: do}.refused(t, "no case", api.ErrArg)
		call{k: opened(ask), do: do}.refused(t, "no contract", api.ErrArg)
	}
	kids := make([]api.Expr, 2)
	ring := op(api.OpAnd, kids...)
	kids[0], kids[1] = ring, ring
	x := fine(api.DoAdvance)
	x.c.Moves[3].Guard = ring
	x.refused(t, "a guard without an end", api.ErrArg)
	if _, err := casefile.New(x.c, "k"); err != api.ErrContract || casefile.Right(x.c, x.k) {
		t.Errorf("error %d", err)
	}
}
