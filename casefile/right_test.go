package casefile_test

import (
	"fmt"
	"math"
	"slices"
	"testing"

	"quaestor/api"
	"quaestor/casefile"
)

// wrong is what is done to a call's contract or case that makes it wrong.
type wrong struct {
	what string
	do   func(x *call)
}

// wrongCases make a case of loan wrong, in whatever stage it is.
func wrongCases() []wrong {
	var l []wrong
	add := func(what string, do func(k *api.Case)) {
		l = append(l, wrong{what, func(x *call) { do(&x.k) }})
	}
	for _, id := range noNames() {
		add(fmt.Sprintf("id %q", id), func(k *api.Case) { k.Id = id })
	}
	for _, name := range []string{"", "Loan", "loan\x00", "loa", "loans", "ask"} {
		add(fmt.Sprintf("contract %q", name), func(k *api.Case) { k.Contract = name })
	}
	for _, stage := range []int{-1, 4, math.MinInt, math.MaxInt, 1 << 32} {
		for _, endorsed := range [][]int{nil, {0}} {
			add(fmt.Sprintf("stage %d, endorsed by %v", stage, endorsed), func(k *api.Case) { k.Stage, k.Endorsed = stage, endorsed })
		}
	}
	for _, steps := range []int{-1, mostSteps + 1, math.MinInt, math.MaxInt} {
		add(fmt.Sprintf("%d steps", steps), func(k *api.Case) { k.Steps = steps })
	}
	add("suspended and closed", func(k *api.Case) { k.Suspended, k.Closed = true, true })
	add("no values", func(k *api.Case) { k.Values = nil })
	add("a value too few", func(k *api.Case) { k.Values = k.Values[:5] })
	add("a value too many", func(k *api.Case) { k.Values = append(slices.Clone(k.Values), text("")) })
	add("far too many values", func(k *api.Case) { k.Values = make([]api.Value, 1000) })
	add("values in another order", func(k *api.Case) { k.Values[4], k.Values[5] = k.Values[5], k.Values[4] })
	for i := range 6 {
		for _, v := range misfits(i) {
			add(fmt.Sprintf("value %d is %+v", i, v), func(k *api.Case) { k.Values[i] = v })
		}
	}
	for _, y := range noEndorsed() {
		add(fmt.Sprintf("endorsed by %v in stage %d", y.orgs, y.stage), func(k *api.Case) { k.Stage, k.Endorsed = y.stage, y.orgs })
	}
	return l
}

// noNames are no names.
func noNames() []string { return []string{"", long(api.MaxName + 1), long(1000)} }

// misfits are values that loan's field of that place may not have.
func misfits(place int) []api.Value {
	kind := loan().Fields[place].Kind
	l := []api.Value{
		{}, {Kind: -1}, {Kind: 5}, {Kind: kind, Int: 1, Text: "old"}, {Kind: kind, Bool: true, Text: "old"}, {Kind: kind, Int: 1, Num: 1},
		{Kind: kind, Bool: true, Num: math.Copysign(0, -1)}, {Kind: api.KindText, Text: long(api.MaxText + 1)},
	}
	for _, v := range []api.Value{integer(1), truth(true), text("old"), num(1)} {
		if v.Kind != kind {
			l = append(l, v)
		}
	}
	if place == 0 {
		l = append(l, text(""), text("ol"), text("Old"), text("older"))
	}
	return l
}

// placed are organizations in a stage.
type placed struct {
	stage int
	orgs  []int
}

// noEndorsed cannot have endorsed loan's stages like that.
func noEndorsed() []placed {
	return []placed{
		{ask, []int{0}}, {ask, []int{3}}, {ask, []int{-1}},
		{pay, []int{2}}, {pay, []int{0, 2}}, {pay, []int{0, 1, 2, 3}}, {pay, []int{1, 0}}, {pay, []int{3, 1}}, {pay, []int{0, 0}}, {pay, []int{3, 3}}, {pay, []int{0, 1, 1}}, {pay, []int{0, 1, 3, 3}}, {pay, []int{0, 3, 1}},
		{pay, []int{-1}}, {pay, []int{4}}, {pay, []int{0, 4}}, {pay, []int{-1, 0}}, {pay, []int{math.MinInt}}, {pay, []int{math.MaxInt}}, {pay, make([]int, 1000)},
		{end, []int{0}}, {end, []int{0, 2}}, {end, []int{2, 2}}, {shut, []int{0, 1}}, {shut, []int{2, 0}},
	}
}

// wrongContracts make the contract wrong, whatever the case is.
func wrongContracts() []wrong {
	var l []wrong
	add := func(what string, do func(c *api.Contract)) {
		l = append(l, wrong{what, func(x *call) { do(&x.c) }})
	}
	add("no contract", func(c *api.Contract) { *c = api.Contract{} })
	add("no name", func(c *api.Contract) { c.Name = "" })
	add("too long a name", func(c *api.Contract) { c.Name = long(17) })
	add("a first value that does not fit", func(c *api.Contract) { c.Fields[0].Init = text("none") })
	add("two fields of one name", func(c *api.Contract) { c.Fields[1].Name = "rest" })
	add("no stages", func(c *api.Contract) { c.Stages = nil })
	add("a stage that needs too many", func(c *api.Contract) { c.Stages[2].Need = 2 })
	add("a guard that is an int", func(c *api.Contract) { c.Moves[3].Guard = field("sum") })
	add("a move that leads nowhere", func(c *api.Contract) { c.Moves[0].To = 4 })
	add("an effect of another kind", func(c *api.Contract) { c.Moves[6].Effects[0].Expr = yes() })
	return l
}

// TestRight is of promise 7.1: what is right, at each limit, too.
func TestRight(t *testing.T) {
	l := rights()
	for _, do := range deeds() {
		l = append(l, fine(do))
	}
	for _, x := range l {
		if !casefile.Right(x.c, x.k) {
			t.Errorf("not right: %+v", x.k)
		}
	}
}

// TestRightEveryNumber is of promise 7.1: all that is between the edges is right, and all that is beyond is not.
func TestRightEveryNumber(t *testing.T) {
	is := func(what string, n int, k api.Case, want bool) {
		t.Helper()
		if got := casefile.Right(loan(), k); got != want {
			t.Errorf("%s %d: %v, want %v", what, n, got, want)
		}
	}
	for n := range api.MaxName + 4 {
		k := opened(ask)
		k.Id = long(n)
		is("id of length", n, k, n >= 1 && n <= 16)
	}
	for n := -3; n < 8; n++ {
		is("stage", n, opened(n), n >= 0 && n <= 3)
	}
	for _, n := range []int{-2, -1, 0, 1, 2, 1000, 1<<31 - 1, 1 << 31, 1 << 32, mostSteps - 1, mostSteps, mostSteps + 1, mostSteps + 2, 1 << 41} {
		k := opened(ask)
		k.Steps = n
		is("steps", n, k, n >= 0 && n <= mostSteps)
	}
	for n := range 4 {
		k := opened(ask)
		k.Suspended, k.Closed = n&1 == 1, n&2 == 2
		is("suspended, closed", n, k, n < 3)
	}
	for n := range 9 {
		k := opened(ask)
		k.Values = append(k.Values, text(""), text(""), text(""))[:n]
		is("values", n, k, n == 6)
	}
}

// TestRightEndorsed is of promise 7.1: of all sets of organizations, in all orders that are short, just those of a stage that rise are right.
func TestRightEndorsed(t *testing.T) {
	right := map[int]string{
		ask:  "[]",
		pay:  "[] [0] [1] [3] [0 1] [0 3] [1 3] [0 1 3]",
		end:  "[] [2]",
		shut: "[] [0] [2] [0 2]",
	}
	for stage, list := range right {
		want := map[string]bool{}
		for row, rest := "", list+" "; rest != ""; {
			i := slices.Index([]byte(rest), ']') + 1
			row, rest = rest[:i], rest[i+1:]
			want[row] = true
		}
		met := 0
		for _, orgs := range rows(4) {
			got := casefile.Right(loan(), opened(stage, orgs...))
			if got != want[fmt.Sprint(orgs)] {
				t.Errorf("stage %d endorsed by %v: %v", stage, orgs, got)
			}
			if got {
				met++
			}
		}
		if met != len(want) {
			t.Errorf("stage %d: %d sets are right, want %d", stage, met, len(want))
		}
	}
}

// rows are all lists of at most so many numbers, from one below the organizations to one above.
func rows(most int) [][]int {
	l := [][]int{{}}
	for at := 0; at < len(l); at++ {
		if len(l[at]) == most {
			continue
		}
		for n := -1; n <= api.Orgs; n++ {
			l = append(l, append(slices.Clone(l[at]), n))
		}
	}
	return l
}

// TestRightValues is of promise 7.1: each value that fits is right where it fits.
func TestRightValues(t *testing.T) {
	for place, l := range [][]api.Value{
		{text("new"), text("old")},
		{integer(0), integer(math.MinInt64), integer(math.MaxInt64)},
		{integer(0), integer(-1)},
		{truth(false), truth(true)},
		{num(0), num(math.Copysign(0, -1)), num(math.NaN()), num(math.Float64frombits(math.MaxUint64)), num(math.Inf(-1))},
		{text(""), text("x"), text(long(api.MaxText))},
	} {
		for _, v := range l {
			k := opened(pay, 1)
			k.Values[place] = v
			if !casefile.Right(loan(), k) {
				t.Errorf("value %d is %+v: not right", place, v)
			}
		}
	}
}

// TestRightWrong is of promise 7.1: each thing that is wrong, by itself.
func TestRightWrong(t *testing.T) {
	for _, y := range append(wrongCases(), wrongContracts()...) {
		for _, do := range deeds() {
			x := fine(do)
			y.do(&x)
			if casefile.Right(x.c, x.k) {
				t.Errorf("%s: right: %+v", y.what, x.k)
			}
		}
	}
	if casefile.Right(api.Contract{}, api.Case{}) || casefile.Right(loan(), api.Case{}) || casefile.Right(bare(), opened(ask)) {
		t.Error("nothing, or another contract's case, is right")
	}
	if k := opened(ask); casefile.Right(api.Contract{Name: "loan"}, k) {
		t.Error("right for a contract that is not")
	}
}

// TestNew is of promise 7.1: the case that comes of a right contract and a name.
func TestNew(t *testing.T) {
	want := api.Case{Contract: "loan", Values: []api.Value{text("new"), integer(5), integer(-2), truth(false), num(1.5), text("")}}
	for n := 1; n <= api.MaxName; n++ {
		want.Id = long(n)
		got, err := casefile.New(loan(), want.Id)
		if !alike(got, want) || err != api.OK || !casefile.Right(loan(), got) {
			t.Errorf("%q: %+v, error %d", want.Id, got, err)
		}
	}
	if got, err := casefile.New(bare(), "\x00\xff"); !alike(got, api.Case{Id: "\x00\xff", Contract: "c"}) || err != api.OK {
		t.Errorf("%+v, error %d", got, err)
	}
	c := loan()
	c.Stages[0] = api.Stage{Name: "first", Need: 1, Orgs: []int{3}}
	c.Fields[4].Init, c.Fields[5].Init = num(math.NaN()), text(long(api.MaxText))
	want.Id, want.Values[4], want.Values[5] = "k", c.Fields[4].Init, c.Fields[5].Init
	if got, err := casefile.New(c, "k"); !alike(got, want) || err != api.OK {
		t.Errorf("%+v, error %d", got, err)
	}
}

// TestNewErrors is of promise 7.1: which error there is, the contract's ahead of the name's, beside the zero value.
func TestNewErrors(t *testing.T) {
	for _, id := range noNames() {
		if got, err := casefile.New(loan(), id); !alike(got, api.Case{}) || err != api.ErrName {
			t.Errorf("%q: %+v, error %d", id, got, err)
		}
	}
	for _, y := range wrongContracts() {
		for _, id := range append(noNames(), "k") {
			x := call{c: loan()}
			y.do(&x)
			if got, err := casefile.New(x.c, id); !alike(got, api.Case{}) || err != api.ErrContract {
				t.Errorf("%s, %q: %+v, error %d", y.what, id, got, err)
			}
		}
	}
}

// TestNewSharesNothing is of promise 7.1 by rule R4: two answers share no memory with one another, nor with the contract.
func TestNewSharesNothing(t *testing.T) {
	c := loan()
	one, _ := casefile.New(c, "k")
	two, _ := casefile.New(c, "k")
	want := cloneCase(two)
	for i := range one.Values {
		one.Values[i] = integer(99)
	}
	_ = append(one.Values, integer(99))
	_ = append(one.Endorsed, 99)
	c.Fields[0].Init = integer(99)
	if !alike(two, want) || !alike(one, api.Case{Id: "k", Contract: "loan", Values: slices.Repeat([]api.Value{integer(99)}, 6)}) {
		t.Errorf("%+v, want %+v; %+v", two, want, one)
	}
}
