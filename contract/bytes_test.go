package contract_test

import (
	"bytes"
	"encoding/hex"
	"math"
	"strings"
	"testing"

	"quaestor/api"
	"quaestor/contract"
	"quaestor/value"
	"quaestor/wire"
)

// unhex makes bytes of hexadecimal digits; blanks may stand between them.
func unhex(t testing.TB, s string) []byte {
	t.Helper()
	row, err := hex.DecodeString(strings.ReplaceAll(s, " ", ""))
	if err != nil {
		t.Fatalf("%q: %v", s, err)
	}
	return row
}

// How ints, and constants and fields of guards and effects begin.
const (
	i0, i1, i2, i3, i4 = "0000000000000000", "0000000000000001", "0000000000000002", "0000000000000003", "0000000000000004"
	minusOne           = "ffffffffffffffff"
	aConst             = i1 + "0000000000000000"
	yesBytes           = aConst + i2 + "01"
	sumBytes           = i2 + "00000000 00000003 73756d" + i0
)

// leastBytes and loanBytes are what least and loan have.
const (
	leastBytes = "00000001 63 00000000 00000001 00000001 73" + i0 + "00000000 00000000"
	loanBytes  = "00000004 6c6f616e" +
		"00000004" +
		"00000005 7374617465" + i3 + "00000002 00000003 6e6577 00000003 6f6c64" + i3 + "00000003 6e6577" +
		"00000003 73756d" + i1 + "00000000" + i1 + "fffffffffffffffe" +
		"00000004 70616964" + i2 + "00000000" + i2 + "00" +
		"00000004 72617465" + i4 + "00000000" + i4 + "3ff8000000000000" +
		"00000003" +
		"00000003 61736b" + i0 + "00000000" +
		"00000003 706179" + i1 + "00000002" + i1 + i2 +
		"00000003 656e64" + i0 + "00000002" + i0 + i3 +
		"00000002" +
		"00000005 6772616e74" + i0 + i1 + minusOne + yesBytes + "00000000" +
		"00000004 6261636b" + i1 + i0 + i3 + "0000000000000009 00000002 00000000" + i0 + sumBytes + aConst + i1 + i1 +
		"00000002" +
		"00000003 73756d 0000000000000004 00000002 00000000" + i0 + sumBytes + aConst + i1 + i1 +
		"00000005 7374617465" + aConst + i3 + "00000011 6e6f6e65206f6620697473207465787473"
)

// TestPut is of promise 6.2: to the byte, behind whatever bytes stand ahead.
func TestPut(t *testing.T) {
	for _, y := range []struct {
		c     api.Contract
		bytes string
	}{{least(), leastBytes}, {loan(), loanBytes}} {
		for _, front := range []string{"", "x", "\x00\x00", "a longer row of bytes, all of which must stay"} {
			want := append([]byte(front), unhex(t, y.bytes)...)
			if got := contract.Put([]byte(front), y.c); !bytes.Equal(got, want) {
				t.Errorf("behind %q: %x, want %x", front, got, want)
			}
		}
		if got := contract.Put(nil, y.c); !bytes.Equal(got, unhex(t, y.bytes)) {
			t.Errorf("behind none: %x", got)
		}
	}
	for i, c := range rights() {
		if got := contract.Put([]byte("front"), c); !bytes.Equal(got, append([]byte("front"), putAny(c)...)) {
			t.Errorf("%d: %x", i, got)
		}
	}
}

// TestPutOfWrong is of promise 6.2: of a contract that is not right b's bytes alone.
func TestPutOfWrong(t *testing.T) {
	for _, g := range append(groups(), unseen()...) {
		for _, y := range g.list {
			c := loan()
			y.do(&c)
			for _, front := range []string{"", "front"} {
				if got := contract.Put([]byte(front), c); string(got) != front {
					t.Errorf("%s behind %q: %x", y.what, front, got)
				}
			}
			if got := contract.Put(nil, c); len(got) != 0 {
				t.Errorf("%s behind none: %x", y.what, got)
			}
		}
	}
}

// TestPutSharesNothing is of promise 6.2 by rule R4: what is handed in stays, behind its end, too, and an answer is new memory.
func TestPutSharesNothing(t *testing.T) {
	for _, c := range []api.Contract{least(), loan(), full(), {}} {
		back := bytes.Repeat([]byte{0xaa}, 100000)
		one := contract.Put(back[:3], c)
		two := contract.Put(back[:3], c)
		want := bytes.Clone(two)
		for i := range one {
			one[i] ^= 0xff
		}
		_ = append(one, "behind the end"...)
		if !bytes.Equal(back, bytes.Repeat([]byte{0xaa}, 100000)) {
			t.Errorf("%s: what was handed in is changed", c.Name)
		}
		if !bytes.Equal(two, want) {
			t.Errorf("%s: two answers share memory", c.Name)
		}
	}
}

// TestGet is of promise 6.2: what stands there, whatever stands behind it.
func TestGet(t *testing.T) {
	for _, y := range []struct {
		c     api.Contract
		bytes string
	}{{least(), leastBytes}, {loan(), loanBytes}} {
		for _, behind := range []string{"", "\x00", "\x00\x00\x00\x01more"} {
			r := wire.New(append(unhex(t, y.bytes), behind...))
			got, err := contract.Get(r)
			if !alike(got, y.c) || err != api.OK || r.Err() != api.OK || r.Left() != len(behind) {
				t.Errorf("%v, error %d (left %d)", got, err, r.Left())
			}
		}
	}
	for i, c := range rights() {
		r := wire.New(append(wire.PutInt(nil, 7), putAny(c)...))
		r.Int()
		got, err := contract.Get(r)
		r.End()
		if !alike(got, c) || err != api.OK || r.Err() != api.OK {
			t.Errorf("%d: %v, error %d (the reader's %d)", i, got, err, r.Err())
		}
	}
}

// TestGetShort is of promise 6.2: bytes that end within a contract are too short, and nothing is told beside.
func TestGetShort(t *testing.T) {
	for i, c := range []api.Contract{least(), loan(), full()} {
		row := putAny(c)
		for n := range row {
			if i == 2 && n > 2000 && n < len(row)-2000 && n%97 != 0 { // full's many guards are all alike
				continue
			}
			r := wire.New(row[:n])
			got, err := contract.Get(r)
			if !empty(got) || err != api.ErrShort || r.Err() != api.ErrShort {
				t.Fatalf("%d bytes of %d: %v, error %d (the reader's %d)", n, len(row), got, err, r.Err())
			}
		}
	}
}

// past is a contract with more of something than there may be, all else right.
func past() map[string]api.Contract {
	l := map[string]api.Contract{}
	put := func(what string, do func(c *api.Contract)) {
		c := full()
		do(&c)
		l[what] = c
	}
	put("name", func(c *api.Contract) { c.Name += "m" })
	put("fields", func(c *api.Contract) {
		c.Fields = append(c.Fields, api.Field{Name: "z", Kind: api.KindInt, Init: integer(0)})
	})
	put("field's name", func(c *api.Contract) { c.Fields[5].Name += "m" })
	put("texts", func(c *api.Contract) { c.Fields[0].Enum = append(c.Fields[0].Enum, "z") })
	put("texts of an int", func(c *api.Contract) { c.Fields[1].Enum = []string{"a", "b", "c", "d", "e"} })
	put("text", func(c *api.Contract) { c.Fields[0].Enum[3] += "m" })
	put("first value", func(c *api.Contract) { c.Fields[4].Init.Text += "m" })
	put("stages", func(c *api.Contract) { c.Stages = append(c.Stages, api.Stage{Name: "z"}) })
	put("stage's name", func(c *api.Contract) { c.Stages[5].Name += "m" })
	put("organizations", func(c *api.Contract) { c.Stages[5].Orgs = append(c.Stages[5].Orgs, 4) })
	put("moves", func(c *api.Contract) { c.Moves = append(c.Moves, api.Move{Name: "z", Guard: yes()}) })
	put("move's name", func(c *api.Contract) { c.Moves[7].Name += "m" })
	put("effects", func(c *api.Contract) {
		c.Moves[7].Effects = append(c.Moves[7].Effects, api.Effect{Field: c.Fields[4].Name, Expr: field(c.Fields[4].Name)})
	})
	put("effect's field", func(c *api.Contract) { c.Moves[7].Effects[3].Field += "m" })
	put("name in a guard", func(c *api.Contract) { c.Moves[7].Guard = field(long(api.MaxName+1, "x")) })
	put("name in an effect", func(c *api.Contract) { c.Moves[7].Effects[3].Expr = field(long(api.MaxName+1, "x")) })
	put("text in a guard", func(c *api.Contract) { c.Moves[7].Guard = constant(text(long(api.MaxText+1, "x"))) })
	put("kids in a guard", func(c *api.Contract) { c.Moves[7].Guard = op(api.OpAnd, yes(), yes(), yes(), yes()) })
	return l
}

// TestGetLong is of promise 6.2: of each count, name and text one more than there may be, though the bytes end there.
func TestGetLong(t *testing.T) {
	for what, c := range past() {
		row := putAny(c)
		r := wire.New(row)
		if got, err := contract.Get(r); !empty(got) || err != api.ErrLong || r.Err() != api.ErrLong {
			t.Errorf("%s: %v, error %d (the reader's %d)", what, got, err, r.Err())
		}
		r = wire.New(row)
		contract.Get(r)
		cut := len(row) - r.Left() // where the reader stayed, ahead of a count
		r = wire.New(row[:cut+4])
		if got, err := contract.Get(r); !empty(got) || err != api.ErrLong {
			t.Errorf("%s, cut: %v, error %d", what, got, err)
		}
	}
	for _, count := range []string{"00000011", "0000ffff", "7fffffff", "80000000", "ffffffff"} {
		for _, y := range []struct{ what, ahead string }{
			{"name", ""},
			{"fields", "00000001 63"},
			{"stages", "00000001 63 00000000"},
			{"moves", "00000001 63 00000000 00000000"},
			{"organizations", "00000001 63 00000000 00000001 00000001 73" + i0},
			{"effects", "00000001 63 00000000 00000001 00000001 73" + i0 + "00000000 00000001 00000001 6d" + i0 + i0 + i0 + yesBytes},
			{"texts", "00000001 63 00000001 00000001 66" + i3},
		} {
			r := wire.New(unhex(t, y.ahead+count))
			if got, err := contract.Get(r); !empty(got) || err != api.ErrLong || r.Left() != 4 {
				t.Errorf("%s %s: %v, error %d (left %d)", count, y.what, got, err, r.Left())
			}
		}
	}
}

// TestGetForm is of promise 6.2: what is read and is not right; by rule R2 the reader is where it was then.
func TestGetForm(t *testing.T) {
	failed := 0
	for _, g := range groups() {
		for _, y := range g.list {
			c := loan()
			y.do(&c)
			row := putAny(c)
			want := api.ErrForm
			if err := readable(row); err != api.OK {
				want = err
				failed++
			}
			r := wire.New(append(wire.PutInt(nil, 9), row...))
			r.Int()
			left := r.Left()
			got, err := contract.Get(r)
			if !empty(got) || err != want {
				t.Errorf("%s: %v, error %d, want %d", y.what, got, err, want)
			}
			if r.Err() != api.OK {
				continue
			}
			if _, again := contract.Get(r); r.Left() != left || again != want {
				t.Errorf("%s: left %d of %d; error %d", y.what, r.Left(), left, again)
			}
			if name := string(r.Bytes(1000)); name != c.Name {
				t.Errorf("%s: %q stands at the reader's front", y.what, name)
			}
		}
	}
	if failed == 0 || failed > 100 {
		t.Errorf("%d could not be read", failed)
	}
}

// plainReader goes over bytes by the chapter's form, as plainly as can be, and tells the first error.
type plainReader struct {
	r   *wire.Reader
	err api.Errno
}

func (p *plainReader) note(err api.Errno) bool {
	if p.err == api.OK {
		p.err = err
	}
	if p.err == api.OK {
		p.err = p.r.Err()
	}
	return p.err == api.OK
}

func (p *plainReader) ints(n int) {
	for range n {
		p.r.Int()
	}
	p.note(api.OK)
}

func (p *plainReader) bytes(most int) {
	p.r.Bytes(most)
	p.note(api.OK)
}

func (p *plainReader) many(most int, one func()) {
	n := p.r.Count(most)
	for i := 0; i < n && p.note(api.OK); i++ {
		one()
	}
	p.note(api.OK)
}

func (p *plainReader) expr(parts *int, deep int) {
	if p.err != api.OK {
		return
	}
	*parts++
	if *parts > api.MaxNodes || deep > api.MaxDeep {
		p.note(api.ErrDeep)
		return
	}
	p.ints(1)
	kids := p.r.Count(3)
	p.bytes(api.MaxName)
	switch p.r.Int() {
	case 0:
	case api.KindInt:
		p.r.Int()
	case api.KindBool:
		p.r.Bool()
	case api.KindText:
		p.r.Bytes(api.MaxText)
	case api.KindNum:
		p.r.Num()
	default:
		p.note(api.ErrForm)
	}
	p.note(api.OK)
	for range kids {
		p.expr(parts, deep+1)
	}
}

// readable tells the error, if there is one, ahead of asking whether what was read is right.
func readable(row []byte) api.Errno {
	p := &plainReader{r: wire.New(row)}
	p.bytes(api.MaxName)
	p.many(api.MaxFields, func() {
		p.bytes(api.MaxName)
		p.ints(1)
		p.many(api.MaxEnum, func() { p.bytes(api.MaxText) })
		if p.note(api.OK) {
			_, err := value.Get(p.r)
			p.note(err)
		}
	})
	if p.note(api.OK) {
		p.many(api.MaxStages, func() {
			p.bytes(api.MaxName)
			p.ints(1)
			p.many(api.Orgs, func() { p.ints(1) })
		})
	}
	if p.note(api.OK) {
		p.many(api.MaxMoves, func() {
			p.bytes(api.MaxName)
			p.ints(3)
			p.expr(new(int), 1)
			if p.note(api.OK) {
				p.many(api.MaxEffects, func() {
					p.bytes(api.MaxName)
					p.expr(new(int), 1)
				})
			}
		})
	}
	return p.err
}

// TestGetErrorsOfBelow is of promise 6.2: the errors of what stands in a contract, though the contract's name is none, and though bytes are missed behind.
func TestGetErrorsOfBelow(t *testing.T) {
	guard := func(e api.Expr) func(c *api.Contract) { return func(c *api.Contract) { c.Moves[0].Guard = e } }
	effect := func(e api.Expr) func(c *api.Contract) {
		return func(c *api.Contract) { c.Moves[1].Effects[0].Expr = e }
	}
	for _, y := range []struct {
		what string
		do   func(c *api.Contract)
		want api.Errno
	}{
		{"first value of no kind", func(c *api.Contract) { c.Fields[1].Init = api.Value{} }, api.ErrForm},
		{"first value of kind 5", func(c *api.Contract) { c.Fields[1].Init = api.Value{Kind: 5} }, api.ErrForm},
		{"first value of kind -1", func(c *api.Contract) { c.Fields[3].Init = api.Value{Kind: -1} }, api.ErrForm},
		{"first value too long", func(c *api.Contract) { c.Fields[0].Init = text(long(api.MaxText+1, "x")) }, api.ErrLong},
		{"guard too deep", guard(chain(api.MaxDeep + 1)), api.ErrDeep},
		{"guard of too many parts", guard(bush(api.MaxNodes + 1)), api.ErrDeep},
		{"guard of too many kids", guard(op(api.OpAnd, yes(), yes(), yes(), yes())), api.ErrLong},
		{"guard of a value of kind 5", guard(constant(api.Value{Kind: 5})), api.ErrForm},
		{"effect too deep", effect(chain(api.MaxDeep + 1)), api.ErrDeep},
		{"effect of too many parts", effect(bush(api.MaxNodes + 1)), api.ErrDeep},
		{"effect of too long a name", effect(field(long(api.MaxName+1, "x"))), api.ErrLong},
		{"effect of a value of kind 5", effect(op(api.OpNeg, constant(api.Value{Kind: 5}))), api.ErrForm},
	} {
		for _, name := range []string{"loan", ""} {
			c := loan()
			c.Name = name
			y.do(&c)
			row := putAny(c)
			r := wire.New(row)
			got, err := contract.Get(r)
			if !empty(got) || err != y.want || r.Err() == api.OK && r.Left() != len(row) {
				t.Errorf("%s: %v, error %d, want %d (left %d)", y.what, got, err, y.want, r.Left())
			}
		}
	}
}

// TestGetWrongBytes is of promise 6.2: bytes that are no such thing within a contract are the reader's error.
func TestGetWrongBytes(t *testing.T) {
	c := loan()
	row := putAny(c)
	paid := bytes.Index(row, []byte("paid")) + len("paid") + 8 + 4 + 8
	rate := bytes.Index(row, []byte("rate")) + len("rate") + 8 + 4 + 8
	for _, y := range []struct {
		what string
		at   int
		with string
	}{
		{"a truth of 2", paid, "02"},
		{"another NaN", rate, "7ff8000000000000"},
		{"a NaN below", rate, "fff8000000000001"},
	} {
		bad := bytes.Clone(row)
		copy(bad[y.at:], unhex(t, y.with))
		r := wire.New(bad)
		if got, err := contract.Get(r); !empty(got) || err != api.ErrForm || r.Err() != api.ErrForm || r.Left() != len(row)-y.at {
			t.Errorf("%s: %v, error %d (the reader's %d, left %d)", y.what, got, err, r.Err(), r.Left())
		}
	}
	copy(row[rate:], unhex(t, "7ff8000000000001"))
	if got, err := contract.Get(wire.New(row)); err != api.OK || !math.IsNaN(got.Fields[3].Init.Num) {
		t.Errorf("the NaN: %v, error %d", got, err)
	}
}

// TestGetOfFailedReader is of promise 6.2: the error that a reader has already is told, whatever stands there.
func TestGetOfFailedReader(t *testing.T) {
	for want, fail := range map[api.Errno]func(r *wire.Reader){
		api.ErrShort: func(r *wire.Reader) { r.Bytes(math.MaxInt) },
		api.ErrForm:  func(r *wire.Reader) { r.Bool() },
		api.ErrLong:  func(r *wire.Reader) { r.Count(0) },
		api.ErrMore:  func(r *wire.Reader) { r.End() },
	} {
		for _, c := range []api.Contract{loan(), {}} {
			row := append([]byte{0x7f, 0xff, 0xff, 0xff}, putAny(c)...)
			r := wire.New(row)
			fail(r)
			if got, err := contract.Get(r); !empty(got) || err != want || r.Err() != want || r.Left() != len(row) {
				t.Errorf("%v, error %d, want %d", got, err, want)
			}
		}
	}
}

// TestGetOfNoReader is of promise 6.2 and rule R1: a reader without bytes, and none, has no contract, and nothing panics.
func TestGetOfNoReader(t *testing.T) {
	for _, r := range []*wire.Reader{{}, wire.New(nil)} {
		if got, err := contract.Get(r); !empty(got) || err != api.ErrShort {
			t.Errorf("%v, error %d", got, err)
		}
	}
	if got, err := contract.Get(nil); !empty(got) || err != api.ErrForm {
		t.Errorf("none: %v, error %d", got, err)
	}
}

// TestGetAnswersNewMemory is of promise 6.2 by rule R4: two answers of the same bytes share nothing, nor do the lists of one.
func TestGetAnswersNewMemory(t *testing.T) {
	row := contract.Put(nil, full())
	was := bytes.Clone(row)
	one, _ := contract.Get(wire.New(row))
	two, _ := contract.Get(wire.New(row))
	for i := range one.Fields {
		one.Fields[i].Enum = append(one.Fields[i].Enum, "behind")
		for j := range one.Fields[i].Enum {
			one.Fields[i].Enum[j] = "other"
		}
		one.Fields[i].Name = "other"
	}
	for i := range one.Stages {
		_ = append(one.Stages[i].Orgs, 7)
		one.Stages[i].Orgs[0] = 7
		if i > 0 && one.Stages[i].Orgs[1] != 1 {
			t.Errorf("stage %d: %v", i, one.Stages[i])
		}
	}
	for i := range one.Moves {
		one.Moves[i].Guard.Kids[0] = field("other")
		one.Moves[i].Effects[0].Field = "other"
		if m := one.Moves[i]; m.Effects[1].Field != two.Fields[1].Name {
			t.Errorf("move %d: %v", i, m)
		}
	}
	if !alike(two, full()) || !bytes.Equal(row, was) {
		t.Errorf("%v", two)
	}
}

// FuzzGet is of promises 6.2 and 6.3: whatever the bytes are, what is got from them is right, and has, when it is put, the bytes that the reader went over.
func FuzzGet(f *testing.F) {
	for _, c := range rights() {
		f.Add(putAny(c))
	}
	for _, g := range groups() {
		for _, y := range g.list {
			c := loan()
			y.do(&c)
			f.Add(putAny(c))
		}
	}
	f.Fuzz(func(t *testing.T, row []byte) {
		r := wire.New(row)
		c, err := contract.Get(r)
		if want := readable(row); want != api.OK && err != want {
			t.Fatalf("%x: error %d, want %d", row, err, want)
		} else if want == api.OK && err != api.OK && err != api.ErrForm {
			t.Fatalf("%x: error %d", row, err)
		}
		if err != api.OK {
			if !empty(c) || r.Err() == api.OK && r.Left() != len(row) {
				t.Fatalf("%x: %v beside error %d (left %d)", row, c, err, r.Left())
			}
			return
		}
		if err := contract.Check(c); err != api.OK {
			t.Fatalf("%x: error %d of %v", row, err, c)
		}
		if went := row[:len(row)-r.Left()]; !bytes.Equal(contract.Put(nil, c), went) {
			t.Fatalf("%x: %v", row, c)
		}
	})
}
