package casefile_test

import (
	"fmt"
	"math"
	"testing"

	"quaestor/api"
)

// fault is what is done to a call so that it has an error.
type fault struct {
	what string
	err  api.Errno
	do   func(x *call)
}

// rank is a list of faults of which none is told ahead of the others.
type rank []fault

// ranks are all faults of one of the seven, in the order in which they are told.
func ranks(do int) []rank {
	own := map[int]func() []rank{
		api.DoUpdate:  updateRanks,
		api.DoEndorse: endorseRanks,
		api.DoAdvance: advanceRanks,
		api.DoClose: func() []rank {
			return []rank{{
				{"a stage that moves lead from", api.ErrStage, func(x *call) { x.k.Stage, x.k.Endorsed = ask, nil }},
				{"a move that leads back", api.ErrStage, func(x *call) { x.c.Moves[7].From = x.k.Stage }},
			}}
		},
	}
	l := []rank{argRank(), {{"full", api.ErrFull, func(x *call) { x.k.Steps = mostSteps }}}}
	isClosed := rank{{"closed", api.ErrClosed, func(x *call) { x.k.Closed, x.k.Suspended = true, false }}}
	isSuspended := rank{{"suspended", api.ErrSuspended, func(x *call) { x.k.Closed, x.k.Suspended = false, true }}}
	isOpen := rank{{"neither", api.ErrOpen, func(x *call) { x.k.Closed, x.k.Suspended = false, false }}}
	switch do {
	case api.DoReopen:
		return append(l, append(isOpen, fault{"suspended", api.ErrOpen, isSuspended[0].do}))
	case api.DoResume:
		return append(l, isClosed, isOpen)
	}
	l = append(l, isClosed, isSuspended)
	if more := own[do]; more != nil {
		l = append(l, more()...)
	}
	return l
}

// argRank are faults of all of the seven.
func argRank() rank {
	var l rank
	for _, y := range append(wrongCases(), wrongContracts()...) {
		l = append(l, fault{y.what, api.ErrArg, y.do})
	}
	for _, org := range []int{-1, api.Orgs, math.MinInt, math.MaxInt, 1 << 32} {
		l = append(l, fault{fmt.Sprintf("by %d", org), api.ErrArg, func(x *call) { x.org = org }})
	}
	for _, do := range []int{0, -1, api.DoDeploy, api.DoOpen, 10, math.MaxInt, math.MinInt} {
		l = append(l, fault{fmt.Sprintf("deed %d", do), api.ErrArg, func(x *call) { x.do = do }})
	}
	return l
}

func updateRanks() []rank {
	var names, types, texts rank
	for _, name := range []string{"", "none", "Sum", "su", "sum\x00", "pay", "stay", long(1000)} {
		names = append(names, fault{fmt.Sprintf("field %q", name), api.ErrName, func(x *call) { x.name = name }})
	}
	for place, f := range loan().Fields {
		for _, v := range misfits(place) {
			y := fault{fmt.Sprintf("%s is %+v", f.Name, v), api.ErrType, func(x *call) { x.name, x.v = f.Name, v }}
			if place == 0 && v.Kind == api.KindText && v.Int == 0 && !v.Bool && len(v.Text) <= api.MaxText {
				y.err = api.ErrField
				texts = append(texts, y)
				continue
			}
			types = append(types, y)
		}
	}
	return []rank{{{"none of the stage's", api.ErrOrg, func(x *call) { x.org = 2 }}}, names, types, texts}
}

func endorseRanks() []rank {
	return []rank{
		{
			{"none of the stage's", api.ErrOrg, func(x *call) { x.org = 2 }},
			{"a stage of nobody", api.ErrOrg, func(x *call) { x.k.Stage, x.k.Endorsed = ask, nil }},
			{"a stage of another one", api.ErrOrg, func(x *call) { x.k.Stage, x.k.Endorsed = end, []int{2} }},
		},
		{
			{"it has, as the last", api.ErrExists, func(x *call) { x.k.Endorsed = []int{0, 1} }},
			{"it has, alone", api.ErrExists, func(x *call) { x.k.Endorsed = []int{1} }},
			{"all have", api.ErrExists, func(x *call) { x.k.Endorsed = []int{0, 1, 3} }},
		},
	}
}

func advanceRanks() []rank {
	var names, stages rank
	for _, name := range []string{"", "none", "Swap", "swa", "swap\x00", "pay", "sum", long(1000)} {
		names = append(names, fault{fmt.Sprintf("move %q", name), api.ErrName, func(x *call) { x.name = name }})
	}
	for _, name := range []string{"grant", "share", "double", "name", "shut"} {
		stages = append(stages, fault{fmt.Sprintf("move %q", name), api.ErrStage, func(x *call) { x.name = name }})
	}
	guard := func(e api.Expr) func(x *call) {
		return func(x *call) { x.c.Moves[3].Guard = e }
	}
	effects := func(e api.Effect) func(x *call) {
		return func(x *call) { x.c.Moves[3].Effects = []api.Effect{{Field: "paid", Expr: yes()}, e} }
	}
	return []rank{
		names, stages,
		{
			{"for another one", api.ErrOrg, func(x *call) { x.c.Moves[3].Org = 0 }},
			{"for another one, none of the stage's", api.ErrOrg, func(x *call) { x.c.Moves[3].Org = 2 }},
		},
		{
			{"nobody has endorsed", api.ErrEndorse, func(x *call) { x.k.Endorsed = nil }},
			{"one has endorsed", api.ErrEndorse, func(x *call) { x.k.Endorsed = []int{3} }},
			{"it needs one more", api.ErrEndorse, func(x *call) { x.c.Stages[pay].Need = 3 }},
		},
		{
			{"the guard divides by nought", api.ErrZero, guard(tell(zero()))},
			{"the guard goes over", api.ErrOver, guard(tell(over()))},
			{"the guard is false", api.ErrGuard, guard(no())},
		},
		{
			{"an effect divides by nought", api.ErrZero, effects(effect("sum", zero()))},
			{"an effect goes over", api.ErrOver, effects(effect("sum", over()))},
			{"an effect does not fit", api.ErrField, effects(effect("state", constant(text("none"))))},
		},
	}
}

// TestDoErrors is of promise 7.2: each thing that keeps one of the seven from being done has its error, and the case that is told is as it was.
func TestDoErrors(t *testing.T) {
	for _, do := range deeds() {
		fine(do).must(t)
		for _, l := range ranks(do) {
			for _, y := range l {
				x := fine(do)
				y.do(&x)
				x.refused(t, fmt.Sprintf("deed %d: %s", do, y.what), y.err)
			}
		}
	}
}

// TestDoOrder is of promise 7.2 by rule R2: of two things that keep one of the seven from being done the one is told that the chapter names first.
func TestDoOrder(t *testing.T) {
	for _, do := range deeds() {
		l := ranks(do)
		for i, first := range l {
			for _, second := range l[i+1:] {
				for _, one := range first {
					for _, two := range second {
						x := fine(do)
						two.do(&x)
						one.do(&x)
						x.refused(t, fmt.Sprintf("deed %d: %s, and %s", do, one.what, two.what), one.err)
					}
				}
			}
		}
	}
}
