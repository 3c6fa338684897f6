package registry_test

import (
	"bytes"
	"fmt"
	"math"
	"math/rand"
	"slices"
	"testing"

	"quaestor/api"
	"quaestor/casefile"
	"quaestor/registry"
)

// execute does what promise 8.1 says, as plainly as can be, to parts in any order.
func (p *parts) execute(x api.Request, org int) api.Result {
	i := slices.IndexFunc(p.dones, func(d api.Done) bool { return d.Client == x.Client })
	if i >= 0 && p.dones[i].Stamp >= x.Stamp {
		return none(api.ErrStale)
	}
	if i < 0 {
		i = len(p.dones)
		p.dones = append(p.dones, api.Done{Client: x.Client})
	}
	p.dones[i].Stamp, p.dones[i].Result = x.Stamp, p.perform(x.Op, org)
	return p.dones[i].Result
}

func (p *parts) perform(b []byte, org int) api.Result {
	x, err := registry.GetOp(b)
	if err != api.OK {
		return none(err)
	}
	name := x.Name
	if x.Kind == api.DoDeploy {
		name = x.Contract.Name
	}
	there := slices.IndexFunc(p.contracts, func(c api.Contract) bool { return c.Name == name })
	i := slices.IndexFunc(p.cases, func(k api.Case) bool { return k.Id == x.Id })
	switch {
	case x.Kind == api.DoDeploy && there >= 0:
		return none(api.ErrExists)
	case x.Kind == api.DoDeploy && len(p.contracts) == 4:
		return none(api.ErrFull)
	case x.Kind == api.DoDeploy:
		p.contracts = append(p.contracts, x.Contract)
		return none(api.OK)
	case x.Kind == api.DoOpen && there < 0:
		return none(api.ErrContract)
	case x.Kind == api.DoOpen && x.Id == "":
		return none(api.ErrName)
	case x.Kind == api.DoOpen && i >= 0:
		return none(api.ErrExists)
	case x.Kind == api.DoOpen && len(p.cases) == 8:
		return none(api.ErrFull)
	case x.Kind == api.DoOpen:
		k, _ := casefile.New(p.contracts[there], x.Id)
		p.cases = append(p.cases, k)
		return in(0, api.OK)
	case i < 0:
		return none(api.ErrCase)
	}
	of := slices.IndexFunc(p.contracts, func(c api.Contract) bool { return c.Name == p.cases[i].Contract })
	p.cases[i], err = casefile.Do(p.contracts[of], p.cases[i], x.Kind, x.Name, x.Value, org)
	return in(p.cases[i].Stage, err)
}

// dice pick what is asked next.
type dice struct{ *rand.Rand }

// op makes an operation; what may not be done is among them.
func (d dice) op() api.Op {
	pick := func(l ...string) string { return l[d.Intn(len(l))] }
	l := []int{api.DoDeploy, api.DoOpen, api.DoUpdate, api.DoUpdate, api.DoEndorse, api.DoEndorse, api.DoEndorse, api.DoAdvance, api.DoAdvance, api.DoAdvance, d.Intn(12)}
	x := api.Op{Kind: l[d.Intn(len(l))], Id: pick("a", "b", "a", "b", "a", "b", pick("", "c", "d", "e", "f", "g", "h", "i"))}
	x.Value = append(values(), text("new"), text("old"), text("none"), integer(3))[d.Intn(19)]
	switch x.Kind {
	case api.DoDeploy:
		x.Contract = []api.Contract{loan(), loan(), bare("c"), bare("d"), bare("e"), bare(""), wide("w")}[d.Intn(7)]
		if d.Intn(3) == 0 {
			x.Contract.Name = pick("loan", "x", "y", "z")
		}
	case api.DoOpen:
		x.Name = pick("loan", "loan", "loan", "c", "x", "y", "z", "none")
	case api.DoUpdate:
		x.Name = pick("state", "sum", "rate", "none")
		if d.Intn(2) == 0 {
			x.Name, x.Value = "sum", integer([]int64{-1, 0, 7, math.MinInt64}[d.Intn(4)])
		}
	default:
		x.Name = pick("grant", "share", "back", "pay", "none")
	}
	return x
}

// request makes one of a few clients; what is stale, and what is none, is among them.
func (d dice) request(p parts) (api.Request, int) {
	x := api.Request{Client: 999 + d.Intn(4), Stamp: d.Intn(3), Op: registry.PutOp(nil, d.op())}
	for _, done := range p.dones {
		if done.Client == x.Client {
			x.Stamp = done.Stamp - 2 + d.Intn(12)
		}
	}
	if d.Intn(30) == 0 {
		x.Op = x.Op[:d.Intn(len(x.Op))]
	}
	org := d.Intn(api.Orgs)
	if d.Intn(30) == 0 {
		org = []int{-1, api.Orgs, math.MaxInt}[d.Intn(3)]
	}
	return x, org
}

// TestWalks is of promises 8.1 to 8.4: on whatever way, a registry has what plain parts have; what is refused changes no contract and no case; what comes again changes nothing; and one that is read, or cloned, does the same from then on.
func TestWalks(t *testing.T) {
	d := dice{rand.New(rand.NewSource(88))}
	met := map[api.Errno]int{}
	for round := range 40 {
		r := registry.New()
		if round%2 == 1 {
			r = must(t, deploy(loan()), open("a", "loan"), open("b", "loan"))
		}
		p := of(r)
		for step := range 160 {
			x, org := d.request(p)
			was, contracts, cases := r.Put(), show(r.Contracts()), show(r.Cases())
			result := r.Execute(x, org)
			if want := p.execute(x, org); result != want {
				t.Fatalf("%+v by %d: %+v, want %+v", x, org, result, want)
			}
			met[result.Code]++
			if show(of(r)) != show(p.sorted()) || !bytes.Equal(r.Put(), p.sorted().bytes()) {
				t.Fatalf("%+v, want %+v", of(r), p.sorted())
			}
			if result.Code != api.OK && (show(r.Contracts()) != contracts || show(r.Cases()) != cases) {
				t.Fatalf("error %d changes something", result.Code)
			}
			if result.Code == api.ErrStale && !bytes.Equal(r.Put(), was) {
				t.Fatal("what is stale changes something")
			}
			again(t, r, x, org)
			if step%20 == 0 {
				r = d.twin(t, r)
			}
		}
	}
	for _, err := range []api.Errno{
		api.OK, api.ErrStale, api.ErrOp, api.ErrLong, api.ErrExists, api.ErrFull, api.ErrContract, api.ErrName, api.ErrCase, api.ErrArg, api.ErrType, api.ErrField,
		api.ErrOrg, api.ErrStage, api.ErrEndorse, api.ErrGuard, api.ErrZero, api.ErrOver, api.ErrClosed, api.ErrSuspended, api.ErrOpen,
	} {
		if met[err] < 5 {
			t.Errorf("error %d was met %d times", err, met[err])
		}
		delete(met, err)
	}
	if len(met) != 0 {
		t.Errorf("met what must not be: %v", met)
	}
}

// again executes what was executed, which changes nothing.
func again(t *testing.T, r *registry.Registry, x api.Request, org int) {
	was := r.Put()
	if result := r.Execute(x, org); result != none(api.ErrStale) || !bytes.Equal(r.Put(), was) {
		t.Fatalf("%+v again: %+v", x, result)
	}
}

// twin tells one that has the same: the one that was, one that was read, or one that was cloned.
func (d dice) twin(t *testing.T, r *registry.Registry) *registry.Registry {
	twin, err := registry.Get(r.Put())
	if err != api.OK || !same(r, twin) || !same(r, r.Clone()) {
		t.Fatalf("error %d: %+v, want %+v", err, of(twin), of(r))
	}
	return []*registry.Registry{r, twin, r.Clone()}[d.Intn(3)]
}

// TestRefusedChangesNothing is of promise 8.4, one error after the other: the client's last alone is another one.
func TestRefusedChangesNothing(t *testing.T) {
	r := got(t, much())
	for _, y := range []struct {
		x    api.Op
		org  int
		want api.Result
	}{
		{deploy(loan()), 0, none(api.ErrExists)},
		{api.Op{Kind: 10}, 0, none(api.ErrOp)},
		{deploy(wide("v")), 0, none(api.ErrLong)},
		{open("new", "none"), 0, none(api.ErrContract)},
		{open("", "loan"), 0, none(api.ErrName)},
		{open("k", "loan"), 0, none(api.ErrExists)},
		{do(api.DoSuspend, "none"), 0, none(api.ErrCase)},
		{do(api.DoSuspend, "k"), -1, in(1, api.ErrArg)},
		{do(api.DoSuspend, "k\x00"), 0, in(0, api.ErrFull)},
		{do(api.DoSuspend, "s"), 0, in(1, api.ErrSuspended)},
		{update("t", "sum", integer(1)), 2, in(2, api.ErrClosed)},
		{do(api.DoReopen, "k"), 0, in(1, api.ErrOpen)},
		{update("k", "sum", integer(1)), 2, in(1, api.ErrOrg)},
		{update("k", "sum", num(1)), 1, in(1, api.ErrType)},
		{update("k", "state", text("none")), 1, in(1, api.ErrField)},
		{update("k", "none", text("none")), 1, in(1, api.ErrName)},
		{do(api.DoEndorse, "k"), 1, in(1, api.ErrExists)},
		{advance("k", "grant"), 1, in(1, api.ErrStage)},
		{do(api.DoClose, "k"), 1, in(1, api.ErrStage)},
	} {
		refuses(t, r, y.x, y.org, y.want)
	}
	p := of(r)
	for i, d := range much().dones {
		if d.Client != 1000 && p.dones[i] != d {
			t.Errorf("%+v, want %+v", p.dones[i], d)
		}
	}
	if len(p.dones) != len(much().dones) {
		t.Errorf("%+v", p.dones)
	}
}

// FuzzGetOp is of "Operations as bytes": what is read is what PutOp puts of it.
func FuzzGetOp(f *testing.F) {
	for _, y := range opBytes {
		f.Add(registry.PutOp(nil, y.x))
	}
	f.Add(registry.PutOp(nil, deploy(loan())))
	f.Fuzz(func(t *testing.T, b []byte) {
		x, err := registry.GetOp(b)
		if err == api.OK && (len(b) > api.MaxOp || !bytes.Equal(registry.PutOp(nil, x), b)) || err != api.OK && show(x) != show(api.Op{}) {
			t.Errorf("%x: %+v, error %d", b, x, err)
		}
	})
}

// FuzzGet is of promise 8.3: what is read puts the same, and goes on without a panic.
func FuzzGet(f *testing.F) {
	for _, p := range []parts{{}, small(), much()} {
		f.Add(p.bytes())
	}
	f.Fuzz(func(t *testing.T, b []byte) {
		r, err := registry.Get(b)
		if err != api.OK {
			if r != nil || err != api.ErrForm {
				t.Errorf("error %d", err)
			}
			return
		}
		if !bytes.Equal(r.Put(), b) || !same(r, r.Clone()) {
			t.Errorf("%x is put otherwise", b)
		}
		for i, k := range r.Cases() {
			r.Execute(api.Request{Client: 1, Stamp: i, Op: registry.PutOp(nil, do(api.DoSuspend, k.Id))}, 0)
			r.Execute(api.Request{Client: 2, Stamp: i, Op: registry.PutOp(nil, advance(k.Id, fmt.Sprint(i)))}, 0)
		}
		if _, err := registry.Get(r.Put()); err != api.OK {
			t.Errorf("error %d of what was right", err)
		}
	})
}
