package registry_test

import (
	"bytes"
	"fmt"
	"math"
	"testing"

	"quaestor/api"
	"quaestor/casefile"
	"quaestor/registry"
)

// does holds an operation to its result, and the registry to what it must have then.
func does(t *testing.T, r *registry.Registry, x api.Op, org int, want api.Result, contracts []api.Contract, cases []api.Case) {
	t.Helper()
	if got := next(r, x, org); got != want {
		t.Errorf("%+v by %d: %+v, want %+v", x, org, got, want)
	}
	if last, ok := r.Last(1000); !ok || last.Result != want {
		t.Errorf("%+v: the client's last is %+v, want %+v", x, last, want)
	}
	if show(r.Contracts()) != show(contracts) || show(r.Cases()) != show(cases) {
		t.Errorf("%+v: there are %+v, %+v, want %+v, %+v", x, r.Contracts(), r.Cases(), contracts, cases)
	}
}

// refuses holds an operation to its result, with which no contract and no case is changed.
func refuses(t *testing.T, r *registry.Registry, x api.Op, org int, want api.Result) {
	t.Helper()
	does(t, r, x, org, want, r.Contracts(), r.Cases())
}

// TestNew is of promise 8.1: it has nothing.
func TestNew(t *testing.T) {
	r := registry.New()
	if show(of(r)) != show(parts{}) || !bytes.Equal(r.Put(), make([]byte, 12)) {
		t.Errorf("%+v", of(r))
	}
	if d, ok := r.Last(1000); ok || d != (api.Done{}) {
		t.Errorf("%+v, %v", d, ok)
	}
}

// TestStale is of promise 8.1: a client's stamps rise, each client's for themselves; another one changes nothing.
func TestStale(t *testing.T) {
	r := registry.New()
	want := map[int]api.Done{}
	for i, y := range []struct {
		client, stamp int
		stale         bool
	}{
		{1000, 5, false}, {1000, 5, true}, {1000, 4, true}, {1000, 0, true}, {1000, -1, true}, {1000, math.MinInt, true},
		{1001, 1, false}, {1001, 1, true}, {1000, 6, false}, {1000, 5, true}, {1000, 1 << 40, false}, {1000, 1<<40 - 1, true},
		{1000, math.MaxInt, false}, {1000, math.MaxInt, true}, {1000, math.MinInt, true}, {1001, 2, false},
		{-7, math.MinInt, false}, {-7, math.MinInt, true}, {-7, math.MinInt + 1, false}, {-7, -1, false}, {-7, 0, false}, {-7, 0, true},
		{0, 0, false}, {0, 0, true}, {math.MaxInt, -3, false}, {math.MinInt, 0, false},
	} {
		was := r.Put()
		x := api.Request{Client: y.client, Stamp: y.stamp, Op: registry.PutOp(nil, deploy(bare(fmt.Sprint("c", i))))}
		got := r.Execute(x, 0)
		if (got == none(api.ErrStale)) != y.stale {
			t.Errorf("%d, %d: %+v", y.client, y.stamp, got)
		}
		if y.stale && !bytes.Equal(was, r.Put()) {
			t.Errorf("%d, %d: what is stale changes something", y.client, y.stamp)
		}
		if !y.stale {
			want[y.client] = api.Done{Client: y.client, Stamp: y.stamp, Result: got}
		}
		if len(r.Dones()) != len(want) {
			t.Errorf("%+v, want %+v", r.Dones(), want)
		}
		for _, d := range r.Dones() {
			if d != want[d.Client] {
				t.Errorf("%+v, want %+v", d, want[d.Client])
			}
		}
	}
}

// TestStaleAheadOfAll is of promise 8.1: whatever a stale request asks, and whoever asks, it is stale.
func TestStaleAheadOfAll(t *testing.T) {
	r := must(t, deploy(loan()), open("k", "loan"))
	was := r.Put()
	for _, b := range [][]byte{nil, {0xff}, make([]byte, api.MaxOp+1), registry.PutOp(nil, deploy(loan())), registry.PutOp(nil, update("k", "sum", integer(1)))} {
		for _, org := range []int{-1, 0, 4} {
			if got := r.Execute(api.Request{Client: 1000, Stamp: 2, Op: b}, org); got != none(api.ErrStale) || !bytes.Equal(was, r.Put()) {
				t.Errorf("%x: %+v", b, got)
			}
		}
	}
}

// TestNoOperation is of promise 8.1: bytes that are none have GetOp's error, and count as the client's last request.
func TestNoOperation(t *testing.T) {
	r := must(t, deploy(loan()), open("k", "loan"))
	stamp := 2
	for _, y := range []struct {
		b    []byte
		want api.Errno
	}{
		{nil, api.ErrOp}, {[]byte{0xff}, api.ErrOp}, {make([]byte, api.MaxOp), api.ErrOp}, {make([]byte, api.MaxOp+1), api.ErrLong},
		{registry.PutOp(nil, api.Op{Kind: 10, Id: "k"}), api.ErrOp}, {registry.PutOp(nil, deploy(wide("w"))), api.ErrLong},
		{registry.PutOp(nil, deploy(bare(""))), api.ErrOp}, {append(registry.PutOp(nil, do(api.DoSuspend, "k")), 0), api.ErrOp},
	} {
		contracts, cases := show(r.Contracts()), show(r.Cases())
		stamp += 3
		if got := r.Execute(api.Request{Client: 1000, Stamp: stamp, Op: y.b}, 0); got != none(y.want) {
			t.Errorf("%x: %+v, want error %d", y.b, got, y.want)
		}
		if last, _ := r.Last(1000); last != (api.Done{Client: 1000, Stamp: stamp, Result: none(y.want)}) {
			t.Errorf("%x: last %+v", y.b, last)
		}
		if show(r.Contracts()) != contracts || show(r.Cases()) != cases {
			t.Errorf("%x: something is changed", y.b)
		}
	}
}

// TestDeploy is of promise 8.1: contracts are there from then on, each name once, up to the limit.
func TestDeploy(t *testing.T) {
	r := registry.New()
	other := loan()
	other.Fields = nil
	other.Moves = nil
	does(t, r, deploy(loan()), 0, none(api.OK), []api.Contract{loan()}, nil)
	refuses(t, r, deploy(loan()), 0, none(api.ErrExists))
	refuses(t, r, deploy(other), 1, none(api.ErrExists))
	does(t, r, deploy(bare("b")), 2, none(api.OK), []api.Contract{bare("b"), loan()}, nil)
	named := deploy(bare("a"))
	named.Id, named.Name, named.Value = "k", "loan", integer(3) // none of these count
	does(t, r, named, -5, none(api.OK), []api.Contract{bare("a"), bare("b"), loan()}, nil)
	full := []api.Contract{bare("a"), bare("b"), loan(), bare("z")}
	does(t, r, deploy(bare("z")), 99, none(api.OK), full, nil)
	if len(full) != api.MaxContracts {
		t.Errorf("%d contracts are not the most", len(full))
	}
	refuses(t, r, deploy(bare("c")), 0, none(api.ErrFull))
	refuses(t, r, deploy(bare("z")), 0, none(api.ErrExists))
	refuses(t, r, deploy(other), 0, none(api.ErrExists))
}

// TestOpen is of promise 8.1: cases are there from then on, as chapter 7 opens them, each Id once, up to the limit.
func TestOpen(t *testing.T) {
	r := must(t, deploy(loan()), deploy(bare("c")))
	contracts := []api.Contract{bare("c"), loan()}
	first, _ := casefile.New(loan(), "k")
	does(t, r, open("k", "loan"), 0, in(0, api.OK), contracts, []api.Case{first})
	refuses(t, r, open("k", "loan"), 0, none(api.ErrExists))
	refuses(t, r, open("k", "c"), 0, none(api.ErrExists))
	valued := open(long(api.MaxName, "a"), "c")
	valued.Value = text("x") // counts for nothing, nor does who opens it
	second, _ := casefile.New(bare("c"), valued.Id)
	does(t, r, valued, -9, in(0, api.OK), contracts, []api.Case{second, first})
	cases := []api.Case{second, first}
	for i := 2; i < api.MaxCases; i++ {
		k, _ := casefile.New(loan(), fmt.Sprint("k", i))
		cases = append(cases, k)
		does(t, r, open(k.Id, "loan"), i, in(0, api.OK), contracts, cases)
	}
	refuses(t, r, open("z", "loan"), 0, none(api.ErrFull))
	refuses(t, r, open("k", "loan"), 0, none(api.ErrExists))
}

// TestOpenOrder is of promise 8.1: of several errors the one that the chapter names first.
func TestOpenOrder(t *testing.T) {
	r := must(t, deploy(bare("c")), open("k", "c"))
	refuses(t, r, open("x", "d"), 0, none(api.ErrContract))
	refuses(t, r, open("x", ""), 0, none(api.ErrContract))
	refuses(t, r, open("", "d"), 0, none(api.ErrContract))
	refuses(t, r, open("k", "d"), 0, none(api.ErrContract))
	refuses(t, r, open("", "c"), 0, none(api.ErrName))
	for i := 1; i < api.MaxCases; i++ {
		next(r, open(fmt.Sprint(i), "c"), 0)
	}
	refuses(t, r, open("x", "d"), 0, none(api.ErrContract))
	refuses(t, r, open("", "c"), 0, none(api.ErrName))
	refuses(t, r, open("k", "c"), 0, none(api.ErrExists))
	refuses(t, r, open("x", "c"), 0, none(api.ErrFull))
	for kind := api.DoUpdate; kind <= api.DoReopen; kind++ {
		for _, id := range []string{"", "x", "c", "K"} {
			refuses(t, r, do(kind, id), 0, none(api.ErrCase))
			refuses(t, r, do(kind, id), -1, none(api.ErrCase))
		}
	}
}

// TestSteps is of promise 8.1: each of the seven is what chapter 7 does to the case, with the kind, name, value and organization of the request.
func TestSteps(t *testing.T) {
	met := map[api.Errno]bool{}
	full := opened("k", 1, 0, 3)
	full.Steps = mostSteps
	closed, suspended := opened("k", 2), opened("k", 1, 1)
	closed.Closed, suspended.Suspended = true, true
	over := opened("k", 0)
	over.Values[1] = integer(0)
	low := opened("k", 1, 0, 1)
	low.Values[1] = integer(math.MinInt64)
	for _, k := range []api.Case{opened("k", 0), opened("k", 1), opened("k", 1, 1), opened("k", 1, 0, 3), opened("k", 2), full, closed, suspended, over, low} {
		beside := opened("other", 1, 0)
		for kind := api.DoUpdate; kind <= api.DoReopen; kind++ {
			for _, name := range []string{"", "state", "sum", "rate", "grant", "share", "back", "pay", "none"} {
				for _, v := range []api.Value{{}, integer(4), text("new"), text("none"), num(math.NaN()), num(-1)} {
					if kind != api.DoUpdate && v.Kind > api.KindInt || kind != api.DoUpdate && kind != api.DoAdvance && name > "pay" {
						continue // they count for nothing
					}
					for org := -1; org <= api.Orgs; org++ {
						r := got(t, parts{contracts: []api.Contract{loan()}, cases: []api.Case{k, beside}})
						want, err := casefile.Do(loan(), k, kind, name, v, org)
						met[err] = true
						does(t, r, api.Op{Kind: kind, Id: "k", Name: name, Value: v}, org, in(want.Stage, err), []api.Contract{loan()}, []api.Case{want, beside})
					}
				}
			}
		}
	}
	for _, err := range []api.Errno{
		api.OK, api.ErrArg, api.ErrFull, api.ErrClosed, api.ErrSuspended, api.ErrOpen, api.ErrOrg, api.ErrName, api.ErrType, api.ErrField,
		api.ErrExists, api.ErrStage, api.ErrEndorse, api.ErrGuard, api.ErrZero, api.ErrOver,
	} {
		if !met[err] {
			t.Errorf("error %d was never met", err)
		}
	}
}

// TestStepsByContract is of promise 8.1: a case goes by its own contract.
func TestStepsByContract(t *testing.T) {
	short := loan()
	short.Name = "short"
	short.Moves = short.Moves[:1]
	r := must(t, deploy(short), deploy(loan()), open("a", "short"), open("b", "loan"))
	if got := next(r, advance("a", "share"), 0); got != in(0, api.ErrName) {
		t.Errorf("%+v", got)
	}
	if got := next(r, advance("b", "share"), 0); got != in(0, api.OK) {
		t.Errorf("%+v", got)
	}
	if got := next(r, advance("a", "grant"), 0); got != in(1, api.OK) {
		t.Errorf("%+v", got)
	}
}

// TestExecuteKeepsNothing is of promise 8.1 by rule R4: the request's bytes stay, and what is there does not hang on them.
func TestExecuteKeepsNothing(t *testing.T) {
	r := registry.New()
	for i, x := range []api.Op{deploy(loan()), open("k", "loan"), update("k", "state", text("old"))} {
		back := append(registry.PutOp(nil, x), 0xaa, 0xaa)
		row := back[:len(back)-2]
		was := bytes.Clone(back)
		if got := r.Execute(api.Request{Client: 1000, Stamp: i + 1, Op: row}, 0); got.Code != api.OK {
			t.Fatalf("%+v", got)
		}
		if !bytes.Equal(back, was) {
			t.Errorf("%+v: the bytes are changed", x)
		}
		clear(back)
	}
	k, _ := casefile.New(loan(), "k")
	k.Values[0], k.Steps = text("old"), 1
	if show(r.Contracts()) != show([]api.Contract{loan()}) || show(r.Cases()) != show([]api.Case{k}) {
		t.Errorf("%+v", of(r))
	}
}
