package expr_test

import (
	"math"
	"testing"

	"quaestor/api"
	"quaestor/expr"
)

// rows tells what an op may have and what it makes of it: i, b, t, x are the kinds.
func rows() map[int]string {
	return map[int]string{
		api.OpNeg:  "i>i x>x",
		api.OpAdd:  "ii>i xx>x",
		api.OpSub:  "ii>i xx>x",
		api.OpMul:  "ii>i xx>x",
		api.OpDiv:  "ii>i xx>x",
		api.OpMin:  "ii>i xx>x",
		api.OpMax:  "ii>i xx>x",
		api.OpEq:   "ii>b bb>b tt>b xx>b",
		api.OpLess: "ii>b tt>b xx>b",
		api.OpAnd:  "bb>b",
		api.OpOr:   "bb>b",
		api.OpNot:  "b>b",
		api.OpIf:   "bii>i bbb>b btt>t bxx>x",
		api.OpNum:  "i>x",
	}
}

// letters stand for the kinds from KindInt on.
const letters = "ibtx"

// fourFields have one field of each kind, named by its letter.
func fourFields() []api.Field {
	var l []api.Field
	for i := range letters {
		l = append(l, api.Field{Name: letters[i : i+1], Kind: i + 1})
	}
	return l
}

// leaves are an expression's kids of the kinds that letters tell: fields, or constants.
func leaves(kinds string, asFields bool) []api.Expr {
	constants := map[byte]api.Expr{'i': anInt(3), 'b': aTruth(true), 't': aText("a"), 'x': aNum(1.5)}
	var kids []api.Expr
	for i := range kinds {
		if asFields {
			kids = append(kids, field(kinds[i:i+1]))
		} else {
			kids = append(kids, constants[kinds[i]])
		}
	}
	return kids
}

// combinations are all rows of so many letters.
func combinations(length int) []string {
	if length == 0 {
		return []string{""}
	}
	var l []string
	for _, row := range combinations(length - 1) {
		for i := range letters {
			l = append(l, row+letters[i:i+1])
		}
	}
	return l
}

// split tells how many kids an op has, and what it makes of them: nought, where they may not be.
func split(row string) (int, map[string]int) {
	kids, makes := 0, map[string]int{}
	var from string
	for at := 0; at < len(row); at++ {
		switch row[at] {
		case ' ':
			from = ""
		case '>':
			at++
			for i := range letters {
				if letters[i] == row[at] {
					makes[from] = i + 1
				}
			}
			kids = len(from)
		default:
			from += row[at : at+1]
		}
	}
	return kids, makes
}

// TestCheckKinds is of promise 5.1: of each op and whatever kinds its kids are of, the kind that it tells, or ErrType.
func TestCheckKinds(t *testing.T) {
	for o, row := range rows() {
		length, makes := split(row)
		for _, kinds := range combinations(length) {
			for _, asFields := range []bool{false, true} {
				want, wantErr := makes[kinds], api.OK
				if want == 0 {
					wantErr = api.ErrType
				}
				if got, err := expr.Check(op(o, leaves(kinds, asFields)...), fourFields()); got != want || err != wantErr {
					t.Errorf("op %d of %s (fields: %v): kind %d, error %d, want %d, %d", o, kinds, asFields, got, err, want, wantErr)
				}
			}
		}
	}
}

// TestCheckNested is of promise 5.1: a kid's kind is what it tells, not what it is made of.
func TestCheckNested(t *testing.T) {
	for _, y := range []struct {
		e    api.Expr
		kind int
		err  api.Errno
	}{
		{op(api.OpAnd, op(api.OpLess, anInt(1), anInt(2)), op(api.OpEq, aText(""), aText(""))), api.KindBool, api.OK},
		{op(api.OpAdd, op(api.OpNum, field("i")), field("x")), api.KindNum, api.OK},
		{op(api.OpNum, op(api.OpNum, anInt(1))), 0, api.ErrType},
		{op(api.OpAdd, op(api.OpEq, anInt(1), anInt(1)), anInt(1)), 0, api.ErrType},
		{op(api.OpIf, op(api.OpNot, aTruth(false)), op(api.OpIf, aTruth(true), aText("a"), aText("b")), field("t")), api.KindText, api.OK},
		{op(api.OpIf, op(api.OpNot, aTruth(false)), op(api.OpLess, aText("a"), aText("b")), field("t")), 0, api.ErrType},
		{op(api.OpEq, op(api.OpLess, aNum(1), aNum(2)), op(api.OpNot, aTruth(true))), api.KindBool, api.OK},
		{op(api.OpLess, op(api.OpLess, aNum(1), aNum(2)), op(api.OpNot, aTruth(true))), 0, api.ErrType},
		{op(api.OpLess, field("i"), aNum(1.5)), 0, api.ErrType},
	} {
		if got, err := expr.Check(y.e, fourFields()); got != y.kind || err != y.err {
			t.Errorf("%v: kind %d, error %d, want %d, %d", y.e, got, err, y.kind, y.err)
		}
	}
}

// TestCheckConst is of promise 5.1: a constant's kind is its value's, which must be good.
func TestCheckConst(t *testing.T) {
	for _, v := range []api.Value{integer(0), integer(math.MinInt64), truth(false), truth(true), text(""), text(long(api.MaxText)), num(minusNought()), ofBits(theNaN), ofBits(math.MaxUint64)} {
		for _, fields := range [][]api.Field{nil, {}, fourFields()} {
			if got, err := expr.Check(constant(v), fields); got != v.Kind || err != api.OK {
				t.Errorf("%#v: kind %d, error %d", v, got, err)
			}
		}
	}
	for _, v := range []api.Value{{}, {Int: 1}, {Kind: -1}, {Kind: 5}, {Kind: math.MaxInt}, text(long(api.MaxText + 1)), {Kind: api.KindInt, Bool: true}, {Kind: api.KindBool, Num: minusNought()}, {Kind: api.KindNum, Text: "a"}, {Kind: api.KindText, Int: 1}} {
		for _, e := range []api.Expr{constant(v), op(api.OpEq, constant(v), constant(v)), op(api.OpOr, aTruth(true), constant(v))} {
			if got, err := expr.Check(e, fourFields()); got != 0 || err != api.ErrType {
				t.Errorf("%v: kind %d, error %d", e, got, err)
			}
		}
	}
}

// TestCheckField is of promise 5.1: a field's kind is that of the first one of that name, whatever else the field has.
func TestCheckField(t *testing.T) {
	twice := []api.Field{{Name: "a", Kind: api.KindText}, {Name: "b", Kind: api.KindInt}, {Name: "a", Kind: api.KindInt}, {Name: "", Kind: api.KindNum}, {Name: long(99), Kind: api.KindBool, Enum: []string{"z"}}}
	for _, y := range []struct {
		name string
		kind int
		err  api.Errno
	}{
		{"a", api.KindText, api.OK},
		{"b", api.KindInt, api.OK},
		{"", api.KindNum, api.OK},
		{long(99), api.KindBool, api.OK},
		{"c", 0, api.ErrName},
		{"A", 0, api.ErrName},
		{"ab", 0, api.ErrName},
		{"a\x00", 0, api.ErrName},
		{long(98), 0, api.ErrName},
	} {
		if got, err := expr.Check(field(y.name), twice); got != y.kind || err != y.err {
			t.Errorf("%q: kind %d, error %d, want %d, %d", y.name, got, err, y.kind, y.err)
		}
	}
	if got, err := expr.Check(op(api.OpAdd, field("a"), field("b")), twice); got != 0 || err != api.ErrType {
		t.Errorf("the first one of two is a text: kind %d, error %d", got, err)
	}
	for _, fields := range [][]api.Field{nil, {}} {
		for _, name := range []string{"", "a"} {
			if got, err := expr.Check(field(name), fields); got != 0 || err != api.ErrName {
				t.Errorf("%q without fields: kind %d, error %d", name, got, err)
			}
		}
	}
}

// ops are the sixteen, by how many kids they have.
func ops() [][]int {
	return [][]int{
		{api.OpConst, api.OpField},
		{api.OpNeg, api.OpNot, api.OpNum},
		{api.OpAdd, api.OpSub, api.OpMul, api.OpDiv, api.OpMin, api.OpMax, api.OpEq, api.OpLess, api.OpAnd, api.OpOr},
		{api.OpIf},
	}
}

// TestCheckKids is of promise 5.1: as many kids as the op has, else ErrArg, though other things are wrong, too.
func TestCheckKids(t *testing.T) {
	for right, l := range ops() {
		for _, o := range l {
			for kids := range 6 {
				_, err := expr.Check(wide(o, kids), fourFields())
				if (err == api.ErrArg) != (kids != right) {
					t.Errorf("op %d of %d kids: error %d", o, kids, err)
				}
			}
		}
	}
	for _, o := range []int{0, -1, 17, 18, 100, math.MaxInt, math.MinInt, 1<<32 + api.OpAdd} {
		for kids := range 6 {
			if got, err := expr.Check(wide(o, kids), fourFields()); got != 0 || err != api.ErrArg {
				t.Errorf("op %d of %d kids: kind %d, error %d", o, kids, got, err)
			}
		}
	}
}

// TestCheckNameAndVal is of promise 5.1: a name is a field's alone, a value a constant's alone.
func TestCheckNameAndVal(t *testing.T) {
	vals := []api.Value{integer(0), integer(1), truth(false), text(""), num(0), {Kind: 9}, {Int: 1}, {Bool: true}, {Text: "a"}, {Num: 1}, {Num: minusNought()}, {Num: math.NaN()}}
	for kids, l := range ops() {
		for _, o := range l {
			for _, name := range []string{"i", "x", "none", "\x00"} {
				e := wide(o, kids)
				e.Name = name
				if _, err := expr.Check(e, fourFields()); (err == api.ErrArg) != (o != api.OpField) {
					t.Errorf("op %d with name %q: error %d", o, name, err)
				}
			}
			for _, v := range vals {
				e := wide(o, kids)
				e.Val = v
				if _, err := expr.Check(e, fourFields()); (err == api.ErrArg) != (o != api.OpConst) {
					t.Errorf("op %d with %#v: error %d", o, v, err)
				}
			}
		}
	}
}

// TestCheckOrder is of promise 5.1: kids ahead of the part, from the left; of one part its form, its constant, its name, its kids' kinds.
func TestCheckOrder(t *testing.T) {
	form, bad, none, kinds := api.Expr{Op: 99}, constant(api.Value{}), field("none"), op(api.OpNot, anInt(1))
	wants := []struct {
		e    api.Expr
		want api.Errno
	}{{form, api.ErrArg}, {bad, api.ErrType}, {none, api.ErrName}, {kinds, api.ErrType}}
	for _, one := range wants {
		for _, two := range wants {
			for o, e := range map[string]api.Expr{
				"two":       op(api.OpAdd, one.e, two.e),
				"of three":  op(api.OpIf, anInt(1), one.e, two.e),
				"deeper":    op(api.OpAdd, op(api.OpNeg, op(api.OpNot, one.e)), two.e),
				"unknown":   op(0, one.e, two.e),
				"too many":  op(api.OpAdd, anInt(1), anInt(2), one.e, two.e),
				"of a leaf": {Op: api.OpConst, Kids: []api.Expr{one.e, two.e}, Name: "i"},
			} {
				if got, err := expr.Check(e, fourFields()); got != 0 || err != one.want {
					t.Errorf("%s of %v and %v: kind %d, error %d, want %d", o, one.e, two.e, got, err, one.want)
				}
			}
		}
	}
	for _, e := range []api.Expr{
		{Op: api.OpConst, Name: "i"},
		{Op: api.OpConst, Kids: []api.Expr{anInt(1)}},
		{Op: api.OpField, Name: "none", Val: api.Value{Kind: 9}},
		{Op: api.OpField, Name: "none", Kids: []api.Expr{anInt(1)}},
		{Op: api.OpNot, Kids: []api.Expr{anInt(1)}, Name: "i"},
		{Op: api.OpNot, Kids: []api.Expr{anInt(1)}, Val: truth(true)},
		{Op: api.OpAdd, Kids: []api.Expr{anInt(1), aTruth(true), anInt(1)}},
		{},
	} {
		if got, err := expr.Check(e, fourFields()); got != 0 || err != api.ErrArg {
			t.Errorf("%v: kind %d, error %d", e, got, err)
		}
	}
}

// TestCheckSize is of promise 5.1: MaxNodes parts and MaxDeep within one another may be, one more may not, whatever else is wrong.
func TestCheckSize(t *testing.T) {
	for parts := 1; parts <= api.MaxNodes; parts++ {
		if got, err := expr.Check(bush(parts, anInt(1)), nil); got != api.KindInt || err != api.OK {
			t.Errorf("%d parts: kind %d, error %d", parts, got, err)
		}
		if got, err := expr.Check(bush(parts, field("none")), nil); got != 0 || err != api.ErrName {
			t.Errorf("%d parts: kind %d, error %d", parts, got, err)
		}
	}
	for deep := 1; deep <= api.MaxDeep; deep++ {
		if got, err := expr.Check(chain(deep, anInt(1)), nil); got != api.KindInt || err != api.OK {
			t.Errorf("%d deep: kind %d, error %d", deep, got, err)
		}
	}
	if _, err := expr.Check(wide(api.OpAdd, api.MaxNodes-1), nil); err != api.ErrArg {
		t.Errorf("%d kids: error %d", api.MaxNodes-1, err)
	}
	for i, e := range large() {
		if got, err := expr.Check(e, nil); got != 0 || err != api.ErrDeep {
			t.Errorf("large %d: kind %d, error %d", i, got, err)
		}
	}
}

// TestCheckOpKindOfField is of promise 5.1: a field's kind is what it says, though no value is of it.
func TestCheckOpKindOfField(t *testing.T) {
	odd := []api.Field{{Name: "a", Kind: 9}, {Name: "b", Kind: 9}, {Name: "c", Kind: -1}}
	for _, y := range []struct {
		e    api.Expr
		kind int
		err  api.Errno
	}{
		{field("a"), 9, api.OK},
		{op(api.OpEq, field("a"), field("b")), api.KindBool, api.OK},
		{op(api.OpIf, aTruth(true), field("a"), field("b")), 9, api.OK},
		{op(api.OpEq, field("a"), field("c")), 0, api.ErrType},
		{op(api.OpLess, field("a"), field("b")), 0, api.ErrType},
		{op(api.OpAdd, field("a"), field("b")), 0, api.ErrType},
		{op(api.OpNeg, field("c")), 0, api.ErrType},
	} {
		if got, err := expr.Check(y.e, odd); got != y.kind || err != y.err {
			t.Errorf("%v: kind %d, error %d, want %d, %d", y.e, got, err, y.kind, y.err)
		}
	}
}
