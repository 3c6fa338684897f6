package contract

import (
	"bytes"
	"slices"

	"quaestor/api"
	"quaestor/expr"
	"quaestor/value"
	"quaestor/wire"
)

// Put puts a contract behind bytes.
func Put(b []byte, c api.Contract) []byte {
	if Check(c) != api.OK {
		return bytes.Clone(b)
	}
	return slices.Concat(b, putText(c.Name), putList(c.Fields, putField), putList(c.Stages, putStage), putList(c.Moves, putMove))
}

// putList puts how many there are, and each: one behind the other, not all of them anew, as wire's Put.. would.
func putList[T any](list []T, put func(T) []byte) []byte {
	b := wire.PutCount(nil, len(list))
	for _, x := range list {
		b = append(b, put(x)...)
	}
	return b
}

// putText is of names and of texts.
func putText(s string) []byte {
	return wire.PutBytes(nil, []byte(s))
}

func putInt(n int) []byte {
	return wire.PutInt(nil, int64(n))
}

func putField(f api.Field) []byte {
	return slices.Concat(putText(f.Name), putInt(f.Kind), putList(f.Enum, putText), value.Put(nil, f.Init))
}

func putStage(s api.Stage) []byte {
	return slices.Concat(putText(s.Name), putInt(s.Need), putList(s.Orgs, putInt))
}

func putMove(m api.Move) []byte {
	return slices.Concat(putText(m.Name), putInt(m.From), putInt(m.To), putInt(m.Org), expr.Put(nil, m.Guard), putList(m.Effects, putEffect))
}

func putEffect(e api.Effect) []byte {
	return slices.Concat(putText(e.Field), expr.Put(nil, e.Expr))
}

// Get reads one.
func Get(r *wire.Reader) (api.Contract, api.Errno) {
	if r == nil { // it has no error, but nothing right either
		return api.Contract{}, api.ErrForm
	}
	front := *r
	c, err := getContract(r)
	if err == api.OK && Check(c) != api.OK {
		err = api.ErrForm
	}
	if err == api.OK {
		return c, api.OK
	}
	if r.Err() == api.OK { // the reader has not failed: an error changes nothing that can be told
		*r = front
	}
	return api.Contract{}, err
}

func getContract(r *wire.Reader) (api.Contract, api.Errno) {
	c := api.Contract{Name: getName(r)}
	var err api.Errno
	if c.Fields, err = getList(r, api.MaxFields, getField); err != api.OK {
		return c, err
	}
	if c.Stages, err = getList(r, api.MaxStages, getStage); err != api.OK {
		return c, err
	}
	c.Moves, err = getList(r, api.MaxMoves, getMove)
	return c, err
}

// getList reads a list up to its first error: of the reader, which does nothing from then on, or of what get reads, which the reader does not know of.
func getList[T any](r *wire.Reader, most int, get func(*wire.Reader) (T, api.Errno)) ([]T, api.Errno) {
	var list []T
	for range r.Count(most) {
		x, err := get(r)
		if err != api.OK {
			return nil, err
		}
		list = append(list, x)
	}
	return list, r.Err()
}

func getName(r *wire.Reader) string {
	return string(r.Bytes(api.MaxName))
}

func getText(r *wire.Reader) (string, api.Errno) {
	text := string(r.Bytes(api.MaxText))
	return text, r.Err()
}

func getInt(r *wire.Reader) (int, api.Errno) {
	n := int(r.Int())
	return n, r.Err()
}

func getField(r *wire.Reader) (api.Field, api.Errno) {
	f := api.Field{Name: getName(r), Kind: int(r.Int())}
	var err api.Errno
	if f.Enum, err = getList(r, api.MaxEnum, getText); err != api.OK {
		return f, err
	}
	f.Init, err = value.Get(r)
	return f, err
}

// getStage takes no more organizations than there are: they rise.
func getStage(r *wire.Reader) (api.Stage, api.Errno) {
	s := api.Stage{Name: getName(r), Need: int(r.Int())}
	var err api.Errno
	s.Orgs, err = getList(r, api.Orgs, getInt)
	return s, err
}

func getMove(r *wire.Reader) (api.Move, api.Errno) {
	m := api.Move{Name: getName(r), From: int(r.Int()), To: int(r.Int()), Org: int(r.Int())}
	var err api.Errno
	if m.Guard, err = expr.Get(r); err != api.OK {
		return m, err
	}
	m.Effects, err = getList(r, api.MaxEffects, getEffect)
	return m, err
}

func getEffect(r *wire.Reader) (api.Effect, api.Errno) {
	e := api.Effect{Field: getName(r)}
	var err api.Errno
	e.Expr, err = expr.Get(r)
	return e, err
}
