package flags

import "ulp/api"

// Env keeps flags till they are cleared, and what errno tells till it is forgotten.
type Env struct {
	flags api.Flags
	math  api.MathErr
}

// New has no flags.
func New() *Env { return &Env{} }

// Copy is one of its own that has what this one has.
func (e *Env) Copy() *Env {
	if e == nil {
		return nil
	}
	c := *e
	return &c
}

// Raise puts flags to those that there are, and lets errno tell of them.
func (e *Env) Raise(f api.Flags) api.Errno {
	if why := e.Update(f); why != api.OK {
		return why
	}
	if m := Math(f); m != api.MathNone {
		e.math = m
	}
	return api.OK
}

// Test are those of f that there are.
func (e *Env) Test(f api.Flags) (api.Flags, api.Errno) {
	if why := e.refuse(f); why != api.OK {
		return 0, why
	}
	return Meet(e.flags, f), api.OK
}

// Clear takes flags away.
func (e *Env) Clear(f api.Flags) api.Errno {
	if why := e.refuse(f); why != api.OK {
		return why
	}
	e.flags = Take(e.flags, f)
	return api.OK
}

// Hold gives all flags away and keeps none.
func (e *Env) Hold() (api.Flags, api.Errno) {
	if e == nil {
		return 0, api.ErrNil
	}
	held := e.flags
	e.flags = 0
	return held, api.OK
}

// Set has just the flags of f.
func (e *Env) Set(f api.Flags) api.Errno {
	if why := e.refuse(f); why != api.OK {
		return why
	}
	e.flags = f
	return api.OK
}

// Update puts flags to those that there are; errno stays, for they were told of when they were raised.
func (e *Env) Update(f api.Flags) api.Errno {
	if why := e.refuse(f); why != api.OK {
		return why
	}
	e.flags = Join(e.flags, f)
	return api.OK
}

// Math is what errno tells.
func (e *Env) Math() api.MathErr {
	if e == nil {
		return api.MathNone
	}
	return e.math
}

// Forget leaves errno nothing to tell.
func (e *Env) Forget() {
	if e != nil {
		e.math = api.MathNone
	}
}

// Do does a step: the flags that it answers.
func (e *Env) Do(s api.EnvStep) (api.Flags, api.Errno) {
	if e == nil {
		return 0, api.ErrNil
	}
	switch s.Kind {
	case api.EnvRaise:
		return 0, e.Raise(s.Flags)
	case api.EnvTest:
		return e.Test(s.Flags)
	case api.EnvClear:
		return 0, e.Clear(s.Flags)
	case api.EnvHold:
		return e.Hold()
	case api.EnvSet:
		return 0, e.Set(s.Flags)
	case api.EnvUpdate:
		return 0, e.Update(s.Flags)
	case api.EnvForget:
		e.Forget()
		return 0, api.OK
	default:
		return 0, api.ErrRange
	}
}

// refuse tells why nothing is done with f: a nil environment comes ahead of wrong bits.
func (e *Env) refuse(f api.Flags) api.Errno {
	if e == nil {
		return api.ErrNil
	}
	if !Right(f) {
		return api.ErrFlags
	}
	return api.OK
}
