package registry

import (
	"quaestor/api"
	"quaestor/casefile"
)

// Execute executes a request.
func (r *Registry) Execute(x api.Request, org int) api.Result {
	if r.has().dones == nil { // New did not make it: there is no place where anything could be kept
		return caseless(api.ErrArg)
	}
	if last, ok := r.dones[x.Client]; ok && last.Stamp >= x.Stamp {
		return caseless(api.ErrStale)
	}
	result := r.perform(x.Op, org)
	r.dones[x.Client] = api.Done{Client: x.Client, Stamp: x.Stamp, Result: result}
	return result
}

// caseless is a result where there is no case, and so no stage.
func caseless(code api.Errno) api.Result {
	return api.Result{Code: code, Stage: -1}
}

// perform does what an operation's bytes say.
func (r *Registry) perform(b []byte, org int) api.Result {
	x, err := GetOp(b)
	if err != api.OK {
		return caseless(err)
	}
	switch x.Kind {
	case api.DoDeploy:
		return caseless(r.deploy(x.Contract))
	case api.DoOpen:
		return r.open(x.Name, x.Id)
	}
	return r.step(x, org)
}

// deploy counts on a contract that is right, as GetOp tells no other one.
func (r *Registry) deploy(c api.Contract) api.Errno {
	if _, ok := r.contracts[c.Name]; ok {
		return api.ErrExists
	}
	if len(r.contracts) >= api.MaxContracts {
		return api.ErrFull
	}
	r.contracts[c.Name] = c
	return api.OK
}

// open opens a case of the contract of that name.
func (r *Registry) open(name, id string) api.Result {
	c, ok := r.contracts[name]
	if !ok {
		return caseless(api.ErrContract)
	}
	k, err := casefile.New(c, id)
	if err != api.OK {
		return caseless(err)
	}
	if _, ok := r.cases[id]; ok {
		return caseless(api.ErrExists)
	}
	if len(r.cases) >= api.MaxCases {
		return caseless(api.ErrFull)
	}
	r.cases[id] = k
	return api.Result{Code: api.OK, Stage: k.Stage}
}

// step takes a case a step further. Beside an error casefile tells the case as it was: to keep that one changes nothing.
func (r *Registry) step(x api.Op, org int) api.Result {
	k, ok := r.cases[x.Id]
	if !ok {
		return caseless(api.ErrCase)
	}
	k, err := casefile.Do(r.contracts[k.Contract], k, x.Kind, x.Name, x.Value, org)
	r.cases[x.Id] = k
	return api.Result{Code: err, Stage: k.Stage}
}
