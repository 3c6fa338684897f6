package registry_test

import (
	"bytes"
	"fmt"
	"math"
	"math/rand"
	"testing"

	"quaestor/api"
	"quaestor/registry"
	"quaestor/term"
)

// TestRising is of promises 8.2 and 8.3: in whatever order things came, they rise, and are told alike always (R5).
func TestRising(t *testing.T) {
	want := parts{}
	for _, name := range []string{"B", "a", "a\x00", "aa"} {
		want.contracts = append(want.contracts, bare(name))
	}
	for i, id := range []string{"\x00", "B", "a", "a\x00", "aa", "b", "\x7f", "\xff"} {
		want.cases = append(want.cases, api.Case{Id: id, Contract: want.contracts[i%4].Name})
	}
	for _, client := range []int{math.MinInt, -1000, -1, 0, 1, 3, 4, 5, 11, 12, 999, 1000, 1001, math.MaxInt} {
		want.dones = append(want.dones, api.Done{Client: client, Stamp: 3, Result: none(api.ErrOp)})
	}
	d := rand.New(rand.NewSource(8))
	for range 40 {
		r := registry.New()
		for _, i := range d.Perm(len(want.contracts)) {
			r.Execute(api.Request{Client: i, Stamp: 1, Op: registry.PutOp(nil, deploy(want.contracts[i]))}, 0)
		}
		for _, i := range d.Perm(len(want.cases)) {
			r.Execute(api.Request{Client: 4 + i%2, Stamp: len(r.Cases()), Op: registry.PutOp(nil, open(want.cases[i].Id, want.cases[i].Contract))}, 0)
		}
		for _, i := range d.Perm(len(want.dones)) {
			r.Execute(api.Request{Client: want.dones[i].Client, Stamp: 3}, 0)
		}
		r.Execute(api.Request{Client: 2, Stamp: 3}, 0)
		for range 5 {
			if show(r.Contracts()) != show(want.contracts) || show(r.Cases()) != show(want.cases) {
				t.Fatalf("%+v, want %+v", of(r), want)
			}
			if p := of(r); show(p) != show(p.sorted()) || len(p.dones) != len(want.dones)+1 || !bytes.Equal(r.Put(), p.bytes()) {
				t.Fatalf("%+v do not rise", p)
			}
		}
	}
}

// TestLast is of promise 8.2: a client's last request, or that there is none.
func TestLast(t *testing.T) {
	r := registry.New()
	for i, client := range []int{1000, 0, -1, 1000, math.MinInt, 1003, 1000} {
		result := r.Execute(api.Request{Client: client, Stamp: i, Op: registry.PutOp(nil, deploy(bare(fmt.Sprint(i))))}, 0)
		if d, ok := r.Last(client); !ok || d != (api.Done{Client: client, Stamp: i, Result: result}) {
			t.Errorf("%d: %+v, %v", client, d, ok)
		}
	}
	if r.Execute(api.Request{Client: 0, Stamp: 1}, 0); len(r.Dones()) != 5 {
		t.Errorf("%+v", r.Dones())
	}
	if d, ok := r.Last(0); !ok || d != (api.Done{Client: 0, Stamp: 1, Result: none(api.OK)}) {
		t.Errorf("%+v, %v", d, ok)
	}
	for _, client := range []int{1, 999, 1001, math.MaxInt} {
		if d, ok := r.Last(client); ok || d != (api.Done{}) {
			t.Errorf("%d: %+v, %v", client, d, ok)
		}
	}
}

// scribbleContract writes over all that a contract's lists have, and behind their ends.
func scribbleContract(c api.Contract) {
	for i := range c.Fields {
		for j := range c.Fields[i].Enum {
			c.Fields[i].Enum[j] = "scribble"
		}
		_ = append(c.Fields[i].Enum, "scribble")
		c.Fields[i] = api.Field{Name: "scribble"}
	}
	for i := range c.Stages {
		for j := range c.Stages[i].Orgs {
			c.Stages[i].Orgs[j] = -99
		}
		c.Stages[i] = api.Stage{Need: -99}
	}
	for i := range c.Moves {
		scribbleExpr(c.Moves[i].Guard)
		for j := range c.Moves[i].Effects {
			scribbleExpr(c.Moves[i].Effects[j].Expr)
			c.Moves[i].Effects[j] = api.Effect{Field: "scribble"}
		}
		c.Moves[i] = api.Move{From: -99}
	}
}

func scribbleExpr(e api.Expr) {
	for i := range e.Kids {
		scribbleExpr(e.Kids[i])
		e.Kids[i] = api.Expr{Op: -99}
	}
}

// scribble writes over all that a registry told.
func scribble(p parts) {
	for i, c := range p.contracts {
		scribbleContract(c)
		p.contracts[i] = api.Contract{Name: "scribble"}
	}
	for i, k := range p.cases {
		for j := range k.Values {
			k.Values[j] = integer(-99)
		}
		for j := range k.Endorsed {
			k.Endorsed[j] = -99
		}
		_, _ = append(k.Values, integer(-99)), append(k.Endorsed, -99)
		p.cases[i] = api.Case{Id: "scribble"}
	}
	for i := range p.dones {
		p.dones[i] = api.Done{Client: -99}
	}
}

// TestTellsCopies is of promise 8.2 by rule R4: what is told is nobody else's.
func TestTellsCopies(t *testing.T) {
	r := got(t, much())
	one, two := of(r), of(r)
	row, again := r.Put(), r.Put()
	scribble(one)
	clear(row)
	if show(two) != show(much()) || show(of(r)) != show(much()) || !bytes.Equal(again, much().bytes()) || !bytes.Equal(r.Put(), again) {
		t.Errorf("%+v", of(r))
	}
	for _, c := range []api.Op{advance("k", "pay"), open("new", "loan"), deploy(bare("m"))} {
		if x := next(r, c, 3); x.Code != api.OK {
			t.Errorf("%+v: %+v", c, x)
		}
	}
	if show(two) != show(much()) || !bytes.Equal(again, much().bytes()) {
		t.Errorf("what was told changes later: %+v", two)
	}
}

// TestClone is of promise 8.2: they have the same, and what is done to the one is not done to the other.
func TestClone(t *testing.T) {
	for _, p := range []parts{{}, much()} {
		r := got(t, p)
		twin := r.Clone()
		if !same(r, twin) || show(of(twin)) != show(p) {
			t.Fatalf("%+v, want %+v", of(twin), of(r))
		}
		scribble(of(twin))
		for i, to := range []*registry.Registry{r, twin} {
			other := []*registry.Registry{twin, r}[i]
			was, before := show(of(other)), show(of(to))
			name := fmt.Sprint("m", i)
			for _, x := range []api.Op{deploy(bare(name)), open("new", name), advance("k", "pay"), do(api.DoSuspend, "new")} {
				next(to, x, 0)
				to.Execute(api.Request{Client: 7 + i, Stamp: 1}, 0)
				if now := show(of(to)); now == before {
					t.Fatalf("%+v is not done", x)
				}
				if now := show(of(other)); now != was {
					t.Fatalf("%+v is done to the other one: %s, want %s", x, now, was)
				}
			}
		}
	}
}

// TestDigest is of promise 8.3: it is made of the bytes, and of these alone.
func TestDigest(t *testing.T) {
	seen := map[api.Digest]string{}
	for _, p := range []parts{{}, much(), {contracts: []api.Contract{bare("c")}}, {contracts: []api.Contract{bare("d")}}, {dones: []api.Done{{}}}} {
		r := got(t, p)
		d := r.Digest()
		if d != term.Leaf(1, p.bytes()) || d != term.Leaf(1, r.Put()) || d != r.Clone().Digest() {
			t.Errorf("%+v: %x", p, d)
		}
		if was, ok := seen[d]; ok {
			t.Errorf("%+v has the digest of %s", p, was)
		}
		seen[d] = show(p)
	}
}

// TestNothing is of promises 8.1 to 8.3: of nil, and of what New did not make.
func TestNothing(t *testing.T) {
	var zero registry.Registry
	for _, r := range []*registry.Registry{nil, &zero} {
		for range 2 {
			for _, x := range []api.Op{{}, deploy(bare("c")), open("k", "c"), do(api.DoSuspend, "k")} {
				if got := r.Execute(api.Request{Client: 1000, Stamp: 1, Op: registry.PutOp(nil, x)}, 0); got != none(api.ErrArg) {
					t.Errorf("%+v: %+v", x, got)
				}
			}
			if show(of(r)) != show(parts{}) || !bytes.Equal(r.Put(), make([]byte, 12)) || r.Digest() != term.Leaf(1, make([]byte, 12)) {
				t.Errorf("%+v, %x", of(r), r.Put())
			}
			if d, ok := r.Last(1000); ok || d != (api.Done{}) {
				t.Errorf("%+v", d)
			}
		}
		twin := r.Clone()
		if twin == nil || !same(twin, registry.New()) || next(twin, deploy(bare("c")), 0) != none(api.OK) || len(twin.Contracts()) != 1 {
			t.Errorf("%+v", of(twin))
		}
		if show(of(r)) != show(parts{}) {
			t.Errorf("%+v", of(r))
		}
	}
}
