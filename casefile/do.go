package casefile

import (
	"slices"

	"quaestor/api"
	"quaestor/contract"
	"quaestor/expr"
	"quaestor/value"
)

// Do does something to a case.
func Do(c api.Contract, k api.Case, do int, name string, v api.Value, org int) (api.Case, api.Errno) {
	k.Values, k.Endorsed = slices.Clone(k.Values), slices.Clone(k.Endorsed)
	switch {
	case !Right(c, k), do < api.DoUpdate, do > api.DoReopen, org < 0, org >= api.Orgs:
		return k, api.ErrArg
	case int64(k.Steps) == mostSteps:
		return k, api.ErrFull
	}
	err := deed{c, name, v, org}.step(&k, do)
	if err == api.OK {
		k.Steps++
	}
	return k, err
}

// deed is what is done, by whom, under a contract. Its steps count on a case that is right, whose lists are nobody else's, and change nothing of it when they tell an error.
type deed struct {
	contract api.Contract
	name     string
	value    api.Value
	org      int
}

// step does one of the seven.
func (d deed) step(k *api.Case, do int) api.Errno {
	if err := barred(*k, do); err != api.OK {
		return err
	}
	switch do {
	case api.DoUpdate:
		return d.update(k)
	case api.DoEndorse:
		return d.endorse(k)
	case api.DoAdvance:
		return d.advance(k)
	case api.DoSuspend:
		k.Suspended = true
	case api.DoResume:
		return resume(k)
	case api.DoClose:
		return d.shut(k)
	case api.DoReopen:
		k.Closed, k.Stage, k.Endorsed = false, 0, nil
	}
	return api.OK
}

// barred tells whether a case bars what is to be done by being closed, suspended, or neither. Suspended may be asked ahead of closed: no right case is both.
func barred(k api.Case, do int) api.Errno {
	switch do {
	case api.DoReopen:
		if !k.Closed {
			return api.ErrOpen
		}
	case api.DoUpdate, api.DoEndorse, api.DoAdvance, api.DoSuspend, api.DoClose:
		if k.Suspended {
			return api.ErrSuspended
		}
		fallthrough
	case api.DoResume:
		if k.Closed {
			return api.ErrClosed
		}
	}
	return api.OK
}

// stage is the one that a case is in.
func (d deed) stage(k *api.Case) api.Stage {
	return d.contract.Stages[k.Stage]
}

// update sets a field.
func (d deed) update(k *api.Case) api.Errno {
	if orgs := d.stage(k).Orgs; len(orgs) > 0 && !slices.Contains(orgs, d.org) {
		return api.ErrOrg
	}
	i := contract.Field(d.contract, d.name)
	if i < 0 {
		return api.ErrName
	}
	if err := value.Fits(d.value, d.contract.Fields[i]); err != api.OK {
		return err
	}
	k.Values[i], k.Endorsed = d.value, nil
	return api.OK
}

// endorse puts the organization in its place among those that have.
func (d deed) endorse(k *api.Case) api.Errno {
	if !slices.Contains(d.stage(k).Orgs, d.org) {
		return api.ErrOrg
	}
	i, has := slices.BinarySearch(k.Endorsed, d.org)
	if has {
		return api.ErrExists
	}
	k.Endorsed = slices.Insert(k.Endorsed, i, d.org)
	return api.OK
}

// advance makes a move.
func (d deed) advance(k *api.Case) api.Errno {
	i := contract.Move(d.contract, d.name)
	if i < 0 {
		return api.ErrName
	}
	m := d.contract.Moves[i]
	if err := d.mayMove(k, m); err != api.OK {
		return err
	}
	values, err := d.effects(k.Values, m.Effects)
	if err != api.OK {
		return err
	}
	k.Values, k.Stage, k.Endorsed = values, m.To, nil
	return api.OK
}

// mayMove tells what keeps a case from a move, short of the move's effects.
func (d deed) mayMove(k *api.Case, m api.Move) api.Errno {
	switch {
	case m.From != k.Stage:
		return api.ErrStage
	case m.Org >= 0 && m.Org != d.org: // below nought it is for any
		return api.ErrOrg
	case len(k.Endorsed) < d.stage(k).Need:
		return api.ErrEndorse
	}
	guard, err := expr.Eval(m.Guard, d.contract.Fields, k.Values)
	if err == api.OK && !guard.Bool {
		return api.ErrGuard
	}
	return err
}

// effects tells the values that effects make of those of before: none of them meets what another one told.
func (d deed) effects(before []api.Value, effects []api.Effect) ([]api.Value, api.Errno) {
	after := slices.Clone(before)
	for _, e := range effects {
		v, err := expr.Eval(e.Expr, d.contract.Fields, before)
		if err != api.OK {
			return nil, err
		}
		i := contract.Field(d.contract, e.Field)
		if err := value.Fits(v, d.contract.Fields[i]); err != api.OK {
			return nil, err
		}
		after[i] = v
	}
	return after, api.OK
}

// resume asks by itself for what nothing else asks.
func resume(k *api.Case) api.Errno {
	if !k.Suspended {
		return api.ErrOpen
	}
	k.Suspended = false
	return api.OK
}

// shut closes a case that can go no further.
func (d deed) shut(k *api.Case) api.Errno {
	if slices.ContainsFunc(d.contract.Moves, func(m api.Move) bool { return m.From == k.Stage }) {
		return api.ErrStage
	}
	k.Closed = true
	return api.OK
}
