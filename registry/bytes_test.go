package registry_test

import (
	"bytes"
	"math"
	"slices"
	"testing"

	"quaestor/api"
	"quaestor/registry"
	"quaestor/value"
	"quaestor/wire"
)

// much are parts with a bit of everything, as right as can be.
func much() parts {
	tired := opened("k\x00", 0)
	tired.Steps, tired.Values = mostSteps, []api.Value{text("new"), integer(math.MinInt64), num(math.NaN())}
	suspended, closed := opened("s", 1, 3), opened("t", 2, 2)
	suspended.Suspended, closed.Closed = true, true
	broad := api.Case{Id: long(api.MaxName, "w"), Contract: long(api.MaxName, "w"), Stage: 5, Endorsed: []int{0, 1, 2, 3}}
	for _, f := range wide("w").Fields {
		broad.Values = append(broad.Values, f.Init)
	}
	return parts{
		contracts: []api.Contract{bare("b"), loan(), wide(long(api.MaxName, "w"))},
		cases:     []api.Case{{Id: "\x00", Contract: "b"}, opened("k", 1, 0, 1, 3), tired, suspended, closed, broad},
		dones: []api.Done{
			{Client: math.MinInt, Stamp: math.MaxInt, Result: in(math.MinInt, math.MaxInt)},
			{Client: -1, Stamp: -5, Result: in(5, api.OK)},
			{},
			{Client: 1000, Stamp: 3, Result: none(api.ErrCase)},
			{Client: 1001, Stamp: 1 << 40, Result: in(-2, -1)},
			{Client: math.MaxInt, Stamp: math.MinInt, Result: in(0, 999)},
		},
	}
}

// smallBytes are what small has: one of everything, to the byte.
const smallBytes = "00000001 00000022" + bareBytes +
	"00000001 00000001 6b 00000001 63" + i0 + "00000000 00000000 00 00" + i3 +
	"00000001 00000000000003e8 0000000000000007 0000000000000053" + minusOne

func small() parts {
	return parts{
		contracts: []api.Contract{bare("c")},
		cases:     []api.Case{{Id: "k", Contract: "c", Steps: 3}},
		dones:     []api.Done{{Client: 1000, Stamp: 7, Result: none(api.ErrStale)}},
	}
}

// TestPut is of promise 8.3: to the byte.
func TestPut(t *testing.T) {
	r := must(t, deploy(bare("c")), open("k", "c"))
	want := "00000001 00000022" + bareBytes +
		"00000001 00000001 6b 00000001 63" + i0 + "00000000 00000000 00 00" + i0 +
		"00000001 00000000000003e8" + i2 + i0 + i0
	if b := r.Put(); !bytes.Equal(b, unhex(t, want)) {
		t.Errorf("%x", b)
	}
	if b := registry.New().Put(); !bytes.Equal(b, unhex(t, "00000000 00000000 00000000")) {
		t.Errorf("%x", b)
	}
	if b := small().bytes(); !bytes.Equal(b, unhex(t, smallBytes)) {
		t.Errorf("%x", b)
	}
	for _, p := range []parts{{}, small(), much()} {
		if b := got(t, p).Put(); !bytes.Equal(b, p.bytes()) {
			t.Errorf("%x, want %x", b, p.bytes())
		}
	}
	next(r, update("k", "sum", integer(1)), 0)
	next(r, deploy(loan()), 0)
	next(r, open("l", "loan"), 0)
	next(r, advance("l", "grant"), 0)
	next(r, do(api.DoEndorse, "l"), 3)
	next(r, do(api.DoEndorse, "l"), 1)
	next(r, do(api.DoSuspend, "l"), 2)
	next(r, do(api.DoClose, "k"), 2)
	r.Execute(api.Request{Client: -1, Stamp: 9}, 0)
	l := api.Case{Id: "l", Contract: "loan", Stage: 1, Values: []api.Value{text("new"), integer(5), num(1.5)}, Endorsed: []int{1, 3}, Suspended: true, Steps: 4}
	p := parts{
		contracts: []api.Contract{bare("c"), loan()},
		cases:     []api.Case{{Id: "k", Contract: "c", Closed: true, Steps: 1}, l},
		dones:     []api.Done{{Client: -1, Stamp: 9, Result: none(api.ErrOp)}, {Client: 1000, Stamp: 10, Result: in(0, api.OK)}},
	}
	if !bytes.Equal(r.Put(), p.bytes()) {
		t.Errorf("%+v, want %+v", of(r), p)
	}
}

// TestGet is of promise 8.3: what was put is read.
func TestGet(t *testing.T) {
	if r, err := registry.Get(unhex(t, smallBytes)); err != api.OK || show(of(r)) != show(small()) {
		t.Errorf("error %d", err)
	}
	if r, err := registry.Get(make([]byte, 12)); err != api.OK || !same(r, registry.New()) {
		t.Errorf("error %d", err)
	}
	p := much()
	r := got(t, p)
	if show(of(r)) != show(p) {
		t.Errorf("%+v, want %+v", of(r), p)
	}
	for i, k := range r.Cases() {
		if !slices.EqualFunc(k.Values, p.cases[i].Values, value.Same) {
			t.Errorf("%+v, want %+v", k, p.cases[i])
		}
	}
	for _, d := range p.dones {
		if last, ok := r.Last(d.Client); !ok || last != d {
			t.Errorf("%+v, want %+v", last, d)
		}
	}
}

// refusedBytes holds bytes to be no registry.
func refusedBytes(t *testing.T, what string, b []byte) {
	t.Helper()
	if r, err := registry.Get(b); r != nil || err != api.ErrForm {
		t.Errorf("%s: error %d of %x", what, err, b)
	}
}

// TestGetCut is of promise 8.3: bytes that end early, or that have something behind their end.
func TestGetCut(t *testing.T) {
	refusedBytes(t, "none", nil)
	for _, p := range []parts{{}, small(), much()} {
		row := p.bytes()
		for n := range row {
			refusedBytes(t, "cut", row[:n])
		}
		for _, behind := range []string{"\x00", "\x01", "\x00\x00\x00\x00", string(row)} {
			refusedBytes(t, "more", append(bytes.Clone(row), behind...))
		}
	}
}

// TestGetContracts is of promise 8.3: contracts are right, rise by name, and are at most so many.
func TestGetContracts(t *testing.T) {
	refused := func(what string, l ...api.Contract) {
		t.Helper()
		refusedBytes(t, what, parts{contracts: l}.bytes())
	}
	a, b, c, d, e := bare("a"), bare("b"), bare("c"), bare("d"), bare("e")
	other := loan()
	other.Name = "a"
	got(t, parts{contracts: []api.Contract{a, b, c, d}})
	refused("too many", a, b, c, d, e)
	refused("twice", a, a)
	refused("two of one name", a, other)
	refused("fall", b, a)
	refused("fall at the end", a, b, d, c)
	refused("fall by length", bare("aa"), a)
	refused("the last is the first", a, b, a)
	wrong := loan()
	wrong.Stages = nil
	refused("not right", wrong)
	refused("not right behind", a, wrong)
	refused("no name", bare(""))
	p := parts{contracts: []api.Contract{a}}
	for _, row := range []string{"", "00", bareBytes + "00", bareBytes + bareBytes, bareBytes[:len(bareBytes)-2], bareBytes[2:], "ffffffff" + bareBytes} {
		refusedBytes(t, "row "+row, p.put(func(api.Contract) []byte { return unhex(t, row) }))
	}
	refusedBytes(t, "deep", p.put(func(api.Contract) []byte {
		m := api.Move{Name: "m", Guard: yes()}
		front := unhex(t, "00000001 63 00000000 00000001 00000001 73"+i0+"00000000 00000001 00000001"+"6d"+i0+i0+i0)
		for range api.MaxDeep {
			front = append(front, unhex(t, "000000000000000c 00000001 00000000"+i0)...)
		}
		return append(value.Put(append(front, unhex(t, i1+"00000000 00000000")...), m.Guard.Val), 0, 0, 0, 0)
	}))
}

// withCase is a right registry's parts with another case of loan in the middle.
func withCase(change func(k *api.Case)) parts {
	k := opened("k", 1, 0, 1)
	change(&k)
	return parts{contracts: []api.Contract{bare("c"), loan()}, cases: []api.Case{{Id: "a", Contract: "c"}, k, {Id: "z", Contract: "c"}}}
}

// TestGetCases is of promise 8.3: cases are right for their contracts, which are there.
func TestGetCases(t *testing.T) {
	for i, change := range []func(k *api.Case){
		func(k *api.Case) {},
		func(k *api.Case) { k.Id = long(api.MaxName, "k") },
		func(k *api.Case) { k.Stage, k.Endorsed = 2, nil },
		func(k *api.Case) { k.Endorsed = []int{0, 1, 3} },
		func(k *api.Case) { k.Suspended = true },
		func(k *api.Case) { k.Closed = true },
		func(k *api.Case) { k.Steps = 0 },
		func(k *api.Case) { k.Steps = mostSteps },
		func(k *api.Case) { k.Values[2] = num(math.Float64frombits(math.MaxUint64)) },
		func(k *api.Case) {
			k.Contract, k.Stage, k.Values, k.Endorsed = "c", 0, nil, nil
		},
	} {
		if r, err := registry.Get(withCase(change).bytes()); err != api.OK || show(of(r)) != show(withCase(change)) {
			t.Errorf("right %d: error %d", i, err)
		}
	}
	for what, change := range map[string]func(k *api.Case){
		"no name":                 func(k *api.Case) { k.Id = "" },
		"too long a name":         func(k *api.Case) { k.Id = long(api.MaxName+1, "k") },
		"no contract":             func(k *api.Case) { k.Contract = "" },
		"another contract":        func(k *api.Case) { k.Contract = "none" },
		"the other contract":      func(k *api.Case) { k.Contract = "c" },
		"too long a contract":     func(k *api.Case) { k.Contract = long(api.MaxName+1, "k") },
		"stage -1":                func(k *api.Case) { k.Stage, k.Endorsed = -1, nil },
		"stage 3":                 func(k *api.Case) { k.Stage, k.Endorsed = 3, nil },
		"stage far beyond":        func(k *api.Case) { k.Stage = 1<<32 + 1 },
		"no values":               func(k *api.Case) { k.Values = nil },
		"too few values":          func(k *api.Case) { k.Values = k.Values[:2] },
		"too many values":         func(k *api.Case) { k.Values = append(k.Values, integer(1)) },
		"far too many values":     func(k *api.Case) { k.Values = append(k.Values, values()...) },
		"a value of another kind": func(k *api.Case) { k.Values[1] = num(1) },
		"a value of none":         func(k *api.Case) { k.Values[1] = api.Value{} },
		"a value of kind 5":       func(k *api.Case) { k.Values[1] = api.Value{Kind: 5} },
		"another text":            func(k *api.Case) { k.Values[0] = text("none") },
		"too long a text":         func(k *api.Case) { k.Values[0] = text(long(api.MaxText+1, "n")) },
		"endorsed by another":     func(k *api.Case) { k.Endorsed = []int{0, 2} },
		"endorsed by -1":          func(k *api.Case) { k.Endorsed = []int{-1, 0} },
		"endorsed by 4":           func(k *api.Case) { k.Endorsed = []int{4} },
		"endorsed twice":          func(k *api.Case) { k.Endorsed = []int{1, 1} },
		"endorsers fall":          func(k *api.Case) { k.Endorsed = []int{1, 0} },
		"too many endorsers":      func(k *api.Case) { k.Endorsed = []int{0, 0, 1, 1, 3} },
		"closed and suspended":    func(k *api.Case) { k.Closed, k.Suspended = true, true },
		"steps -1":                func(k *api.Case) { k.Steps = -1 },
		"steps beyond":            func(k *api.Case) { k.Steps = mostSteps + 1 },
		"Id falls":                func(k *api.Case) { k.Id = "\x00" },
		"Id is that ahead":        func(k *api.Case) { k.Id = "a" },
		"Id is that behind":       func(k *api.Case) { k.Id = "z" },
		"Id is beyond":            func(k *api.Case) { k.Id = "zz" },
	} {
		refusedBytes(t, what, withCase(change).bytes())
	}
	p := parts{contracts: []api.Contract{bare("c")}}
	for i := range api.MaxCases {
		p.cases = append(p.cases, api.Case{Id: "abcdefgh"[i : i+1], Contract: "c"})
	}
	got(t, p)
	p.cases = append(p.cases, api.Case{Id: "i", Contract: "c"})
	refusedBytes(t, "too many", p.bytes())
	refusedBytes(t, "without contracts", parts{cases: p.cases[:1]}.bytes())
}

// TestGetDones is of promise 8.3: clients rise; whatever they did may stand there.
func TestGetDones(t *testing.T) {
	list := func(clients ...int) (p parts) {
		for _, client := range clients {
			p.dones = append(p.dones, api.Done{Client: client, Stamp: 3, Result: none(api.OK)})
		}
		return p
	}
	many := make([]int, 3000)
	for i := range many {
		many[i] = i - 1500
	}
	for _, l := range [][]int{{7}, {-1}, {0}, {-5, -1, 0, 1, 1000, 1001}, {math.MinInt, math.MaxInt}, many} {
		if r := got(t, list(l...)); show(of(r)) != show(list(l...)) {
			t.Errorf("%+v", of(r))
		}
	}
	for _, l := range [][]int{{7, 7}, {0, 0}, {8, 7}, {0, -1}, {1, 2, 2}, {1, 3, 2}, {1, 2, 1}, {math.MaxInt, math.MinInt}, {-1, -2}} {
		refusedBytes(t, show(l), list(l...).bytes())
	}
}

// TestGetWrongBytes is of promise 8.3: counts far beyond, and truths and floats that are none; bytes that no part puts.
func TestGetWrongBytes(t *testing.T) {
	head := "00000001 00000022" + bareBytes + "00000001 00000001 6b 00000001 63" + i0 + "00000000 00000000"
	got := func(tail string) api.Errno {
		_, err := registry.Get(unhex(t, head+tail))
		return err
	}
	if err := got("00 00" + i3 + "00000000"); err != api.OK {
		t.Fatalf("error %d", err)
	}
	for _, tail := range []string{
		"02 00" + i3 + "00000000", "00 02" + i3 + "00000000", "ff 00" + i3 + "00000000", "01 01" + i3 + "00000000",
		"00 00" + i3 + "00000001", "00 00" + i3 + "ffffffff", "00 00" + i3 + "7fffffff 00", "00 00" + minusOne + "00000000",
	} {
		if err := got(tail); err != api.ErrForm {
			t.Errorf("%s: error %d", tail, err)
		}
	}
	for _, b := range []string{
		"ffffffff", "00000005", "00000001 ffffffff" + bareBytes, "00000001 00000023" + bareBytes + "00000000 00000000", "00000001 00000021" + bareBytes + "00000000 00000000",
		"00000000 ffffffff 00000000", "00000000 00000009 00000000", "00000000 00000000 ffffffff", "00000000 00000000 00000001", "00000001 00000000 00000000",
	} {
		refusedBytes(t, b, unhex(t, b))
	}
	row := withCase(func(*api.Case) {}).bytes()
	at := bytes.Index(row, wire.PutNum(nil, -2.5))
	for _, nan := range []string{"7ff8000000000000", "fff8000000000001", "7ff0000000000001"} {
		copy(row[at:], unhex(t, nan))
		refusedBytes(t, "another NaN", row)
	}
	copy(row[at:], unhex(t, "7ff8000000000001"))
	if r, err := registry.Get(row); err != api.OK || !math.IsNaN(r.Cases()[1].Values[2].Num) {
		t.Errorf("the NaN: error %d", err)
	}
}

// TestGetSharesNothing is of promise 8.3 by rule R4: the bytes stay, and what is read does not hang on them.
func TestGetSharesNothing(t *testing.T) {
	back := append(much().bytes(), 0xaa, 0xaa)
	was := bytes.Clone(back)
	row := back[:len(back)-2]
	one, _ := registry.Get(row)
	two, _ := registry.Get(row)
	next(one, advance("k", "pay"), 0)
	scribble(of(one))
	if !bytes.Equal(back, was) || show(of(two)) != show(much()) {
		t.Errorf("%+v", of(two))
	}
	clear(back)
	if show(of(two)) != show(much()) {
		t.Errorf("%+v", of(two))
	}
}

// TestGetOfAnyByte is of promise 8.3: with whatever byte in the place of another, bytes are no registry, or what it puts.
func TestGetOfAnyByte(t *testing.T) {
	p := withCase(func(*api.Case) {})
	p.dones = small().dones
	for _, row := range [][]byte{unhex(t, smallBytes), p.bytes()} {
		right := 0
		for i, was := range row {
			for _, x := range []byte{0, 1, 2, 3, 4, 5, 16, 0x61, 0x7f, 0x80, 0xff, was ^ 1, was + 1, was - 1} {
				row[i] = x
				r, err := registry.Get(row)
				if err == api.OK {
					right++
				}
				if err == api.OK && !bytes.Equal(r.Put(), row) || err != api.OK && (r != nil || err != api.ErrForm) {
					t.Fatalf("byte %d is %d: error %d", i, x, err)
				}
			}
			row[i] = was
		}
		if right < 100 || right > 9*len(row) {
			t.Errorf("%d of %d are right", right, 14*len(row))
		}
	}
}
