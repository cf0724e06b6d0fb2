package walk

import (
	"hackle/api"
	"hackle/help"
	"hackle/state"
	"hackle/val"
)

// Which registers a helper leaves unset: from this one on, and from that one on not.
const (
	leftFrom = 1
	leftTo   = 6
)

// call is what is known behind a helper.
func (p *step) call() api.Errno {
	sig, there := help.Sig(int(p.x.Imm))
	if !there {
		return api.ErrHelper
	}
	i, e := p.tells(sig.Told)
	if e != api.OK {
		return e
	}
	clear(p.s.Regs[leftFrom:leftTo])
	p.s.Regs[0] = upTo(sig.Most)
	if sig.Tells == api.TellsMaybe {
		p.s.Regs[0] = api.Val{Kind: api.ValMaybe, I: i}
	}
	return api.OK
}

// tells is the map that a helper is told, of those that are told one. What is wrong with a register is found ahead of what is wrong with the next.
func (p *step) tells(told []uint8) (int, api.Errno) {
	i := 0
	for n, kind := range told {
		v, e := p.read(uint8(n + 1))
		if e == api.OK {
			e = p.tell(kind, v, i)
		}
		if e != api.OK {
			return 0, e
		}
		if kind == api.ToldTable {
			i = v.I
		}
	}
	return i, api.OK
}

// tell is why a helper must not be told that. A map is told ahead of its keys and values: it is map i.
func (p *step) tell(kind uint8, v api.Val, i int) api.Errno {
	switch kind {
	case api.ToldTable:
		if v.Kind != api.ValWord || v.I >= len(p.g.Defs) {
			return api.ErrTold
		}
	case api.ToldKey:
		return p.shown(v, p.g.Defs[i].Key)
	case api.ToldVal:
		return p.shown(v, p.g.Defs[i].Val)
	case api.ToldNum:
		if !isNumber(v) {
			return api.ErrPointer
		}
	}
	return api.OK
}

// shown is why a helper can't read so many bytes of memory.
func (p *step) shown(at api.Val, size int) api.Errno {
	switch {
	case !val.Pointer(at):
		return api.ErrPointer
	case !p.reaches(at, at.Off, size):
		return api.ErrFault
	case at.Kind == api.ValStack && !state.Full(p.s, at.Off, size):
		return api.ErrBlank
	}
	return api.OK
}
