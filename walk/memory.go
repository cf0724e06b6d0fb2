package walk

import (
	"hackle/api"
	"hackle/state"
	"hackle/val"
)

// load is what is known of what is loaded.
func (p *step) load() (api.Val, api.Errno) {
	at, e := p.read(p.x.Src)
	if e != api.OK {
		return api.Val{}, e
	}
	v, e := p.get(at)
	if e == api.OK && p.w.Signed {
		// That has fewer than eight bytes, and of so few nothing else is told than that they are a number.
		return anything(), api.OK
	}
	return v, e
}

// get is what is known of what is in memory.
func (p *step) get(at api.Val) (api.Val, api.Errno) {
	switch {
	case !val.Pointer(at):
		return api.Val{}, api.ErrPointer
	case at.Kind == api.ValStack:
		return state.Get(p.s, p.off(at), p.w.Size)
	case !p.reaches(at, p.off(at), p.w.Size):
		return api.Val{}, api.ErrFault
	}
	return sized(p.w.Size), api.OK
}

// store is what is known behind something that goes to memory.
func (p *step) store() api.Errno {
	at, v, e := p.pair()
	switch {
	case e != api.OK:
		return e
	case !val.Pointer(at) || p.w.Kind == api.Atom && !isNumber(v):
		return api.ErrPointer
	case at.Kind == api.ValCtx:
		return api.ErrFixed
	case at.Kind == api.ValIn:
		return p.intoMap(at, v)
	case p.w.Kind == api.Atom:
		return p.atom(at)
	}
	return p.ontoStack(at, v)
}

// intoMap tells whether that may go to a map's value, of which nothing is known but that it is numbers.
func (p *step) intoMap(at, v api.Val) api.Errno {
	if !p.reaches(at, p.off(at), p.w.Size) {
		return api.ErrFault
	}
	if !isNumber(v) {
		return api.ErrPointer
	}
	return api.OK
}

// atom is what is known of the stack behind an Atom.
func (p *step) atom(at api.Val) api.Errno {
	was, e := p.get(at)
	if e != api.OK {
		return e
	}
	if !isNumber(was) {
		return api.ErrPointer
	}
	return p.ontoStack(at, anything())
}

// ontoStack is what is known of the stack behind something that is put there: where memory is takes all eight bytes.
func (p *step) ontoStack(at, v api.Val) (e api.Errno) {
	if p.w.Size < 8 && !isNumber(v) {
		return api.ErrPointer
	}
	p.s, e = state.Put(p.s, p.off(at), p.w.Size, v)
	return e
}

// off is how far off an instruction's memory is.
func (p *step) off(at api.Val) int { return at.Off + int(p.x.Off) }

// reaches tells whether there are so many bytes, from off on, where a Pointer goes.
func (p *step) reaches(at api.Val, off, size int) bool {
	return off >= 0 && off+size <= p.room(at)
}

// room is how many bytes there are where a Pointer goes: of a map that is not given none.
func (p *step) room(at api.Val) int {
	switch {
	case at.Kind == api.ValCtx:
		return p.g.Ctx
	case at.Kind == api.ValStack:
		return api.MaxStack
	case at.I < len(p.g.Defs):
		return p.g.Defs[at.I].Val
	}
	return 0
}
