package registry

import (
	"slices"

	"quaestor/api"
	"quaestor/contract"
	"quaestor/value"
	"quaestor/wire"
)

// PutOp puts an operation behind bytes.
func PutOp(b []byte, x api.Op) []byte {
	out := slices.Concat(b, putInt(x.Kind), putText(x.Id), putText(x.Name), value.Put(nil, x.Value))
	if x.Kind == api.DoDeploy {
		out = contract.Put(out, x.Contract)
	}
	return out
}

// GetOp reads one.
func GetOp(b []byte) (api.Op, api.Errno) {
	if len(b) > api.MaxOp {
		return api.Op{}, api.ErrLong
	}
	x, ok := getOp(b)
	if !ok {
		return api.Op{}, api.ErrOp
	}
	return x, api.OK
}

// getOp tells an operation, and whether the bytes are that and nothing more.
func getOp(b []byte) (api.Op, bool) {
	r := wire.New(b)
	x := api.Op{Kind: getInt(r), Id: getName(r), Name: getName(r)}
	var err api.Errno
	if noValue(b[len(b)-r.Left():]) {
		r.Int()
	} else if x.Value, err = value.Get(r); err != api.OK {
		return api.Op{}, false
	}
	if x.Kind == api.DoDeploy {
		if x.Contract, err = contract.Get(r); err != api.OK {
			return api.Op{}, false
		}
	}
	r.End()
	return x, r.Err() == api.OK && api.DoDeploy <= x.Kind && x.Kind <= api.DoReopen
}

// noValue tells whether Value{} stands at the front of bytes: value.Get reads good values alone.
func noValue(b []byte) bool {
	r := wire.New(b)
	return r.Int() == 0 && r.Err() == api.OK
}
