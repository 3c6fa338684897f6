package expr

import (
	"bytes"

	"quaestor/api"
	"quaestor/value"
	"quaestor/wire"
)

// mostKids is how many kids a part has at most, whatever its op is.
const mostKids = 3

// Put puts it behind bytes.
func Put(b []byte, e api.Expr) []byte {
	out := bytes.Clone(b)
	if !small(e) {
		return out
	}
	return appendParts(out, e)
}

// appendParts counts on an expression that is small, and on bytes that nobody else has.
func appendParts(b []byte, e api.Expr) []byte {
	own := wire.PutCount(wire.PutInt(nil, int64(e.Op)), len(e.Kids))
	own = value.Put(wire.PutBytes(own, []byte(e.Name)), e.Val)
	b = append(b, own...) // put behind b, each part would cost a copy of all those ahead of it
	for _, kid := range e.Kids {
		b = appendParts(b, kid)
	}
	return b
}

// Get reads one.
func Get(r *wire.Reader) (api.Expr, api.Errno) {
	if r == nil { // it has no bytes, but could not tell that they end too early
		return api.Expr{}, api.ErrShort
	}
	front := *r
	e, err := readParts(r, new(size), 1)
	if err != api.OK && r.Err() == api.OK { // the reader has not failed: an error changes nothing that can be told
		*r = front
	}
	return e, err
}

// readParts reads a part, the deep-th of those within one another, and its kids.
func readParts(r *wire.Reader, s *size, deep int) (api.Expr, api.Errno) {
	if !s.grow(deep) {
		return api.Expr{}, api.ErrDeep
	}
	e := api.Expr{Op: int(r.Int())}
	kids := r.Count(mostKids)
	e.Name = string(r.Bytes(api.MaxName))
	val, err := readVal(r)
	if err != api.OK {
		return api.Expr{}, err
	}
	e.Val = val
	for range kids {
		kid, err := readParts(r, s, deep+1)
		if err != api.OK {
			return api.Expr{}, err
		}
		e.Kids = append(e.Kids, kid)
	}
	return e, api.OK
}

// readVal reads what value.Get does, and Value{}, which it does not: a copy of the reader goes ahead to see whether that stands there.
func readVal(r *wire.Reader) (api.Value, api.Errno) {
	ahead := *r
	if ahead.Int() != 0 || ahead.Err() != api.OK {
		return value.Get(r)
	}
	*r = ahead
	return api.Value{}, api.OK
}
