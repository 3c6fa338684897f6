package registry

import (
	"cmp"
	"slices"

	"quaestor/api"
	"quaestor/casefile"
	"quaestor/contract"
	"quaestor/value"
	"quaestor/wire"
)

// Put tells all as bytes.
func (r *Registry) Put() []byte {
	have := r.has()
	return slices.Concat(
		putList(rising(have.contracts), putContract),
		putList(rising(have.cases), putCase),
		putList(rising(have.dones), putDone),
	)
}

// putList puts how many there are, and each: one behind the other, not all of them anew, as wire's Put.. would.
func putList[T any](list []T, put func(T) []byte) []byte {
	b := wire.PutCount(nil, len(list))
	for _, x := range list {
		b = append(b, put(x)...)
	}
	return b
}

func putContract(c api.Contract) []byte {
	return wire.PutBytes(nil, contract.Put(nil, c))
}

func putCase(k api.Case) []byte {
	return slices.Concat(
		putText(k.Id), putText(k.Contract), putInt(k.Stage),
		putList(k.Values, putValue), putList(k.Endorsed, putInt),
		wire.PutBool(nil, k.Suspended), wire.PutBool(nil, k.Closed), putInt(k.Steps),
	)
}

func putDone(d api.Done) []byte {
	return slices.Concat(putInt(d.Client), putInt(d.Stamp), putInt(int(d.Result.Code)), putInt(d.Result.Stage))
}

func putValue(v api.Value) []byte {
	return value.Put(nil, v)
}

func putText(s string) []byte {
	return wire.PutBytes(nil, []byte(s))
}

func putInt(n int) []byte {
	return wire.PutInt(nil, int64(n))
}

// Get reads one.
func Get(b []byte) (*Registry, api.Errno) {
	r, from := New(), wire.New(b)
	right := getRising(from, api.MaxContracts, r.contracts, getContract) &&
		getRising(from, api.MaxCases, r.cases, r.getCase) &&
		getRising(from, from.Left(), r.dones, getDone)
	from.End()
	if !right || from.Err() != api.OK {
		return nil, api.ErrForm
	}
	return r, api.OK
}

// getRising reads how many there are, and each, into a map; it tells whether all that was read is right, and its keys rise. What could not be read the reader knows.
func getRising[K cmp.Ordered, V any](from *wire.Reader, most int, into map[K]V, get func(*wire.Reader) (K, V, bool)) bool {
	var ahead K
	for i := range from.Count(most) {
		key, x, ok := get(from)
		if !ok || i > 0 && key <= ahead {
			return false
		}
		into[key], ahead = x, key
	}
	return true
}

// getContract takes no byte more than the contract's own.
func getContract(from *wire.Reader) (string, api.Contract, bool) {
	own := wire.New(from.Bytes(from.Left()))
	c, err := contract.Get(own)
	return c.Name, c, err == api.OK && own.Left() == 0
}

// getCase reads a case of one of the contracts that were read ahead of it.
func (r *Registry) getCase(from *wire.Reader) (string, api.Case, bool) {
	k := api.Case{
		Id: getName(from), Contract: getName(from), Stage: getInt(from),
		Values: getList(from, api.MaxFields, getValue), Endorsed: getList(from, api.Orgs, getInt),
		Suspended: from.Bool(), Closed: from.Bool(), Steps: getInt(from),
	}
	c, ok := r.contracts[k.Contract]
	return k.Id, k, ok && casefile.Right(c, k)
}

// getDone takes whatever a client may have done: a registry does not know who they are.
func getDone(from *wire.Reader) (int, api.Done, bool) {
	d := api.Done{Client: getInt(from), Stamp: getInt(from)}
	d.Result = api.Result{Code: api.Errno(getInt(from)), Stage: getInt(from)}
	return d.Client, d, from.Err() == api.OK
}

// getList reads what is not too many; where there is an error, the reader knows of it, or what is told is not right.
func getList[T any](from *wire.Reader, most int, get func(*wire.Reader) T) []T {
	var list []T
	for range from.Count(most) {
		list = append(list, get(from))
	}
	return list
}

// getValue tells Value{}, which fits no field, where no value stands.
func getValue(from *wire.Reader) api.Value {
	v, _ := value.Get(from)
	return v
}

func getName(from *wire.Reader) string {
	return string(from.Bytes(api.MaxName))
}

func getInt(from *wire.Reader) int {
	return int(from.Int())
}
