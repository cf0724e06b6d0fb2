package walk

import (
	"hackle/alu"
	"hackle/api"
	"hackle/fact"
	"hackle/insn"
	"hackle/val"
)

// value is what is known of what a register becomes.
func (p *step) value() (api.Val, api.Errno) {
	switch p.w.Kind {
	case api.Arith:
		return p.arith()
	case api.Swaps:
		return p.swaps()
	case api.Number:
		return counted(insn.Long(p.x, p.l[p.at+1])), api.OK
	case api.Table:
		return p.word()
	}
	return p.load()
}

// arith is what is known of what arithmetic makes.
func (p *step) arith() (api.Val, api.Errno) {
	if p.w.Op == api.Mov {
		return p.mov()
	}
	a, b, e := p.pair()
	if e != api.OK {
		return api.Val{}, e
	}
	if p.w.Wide && val.Pointer(a) && (p.w.Op == api.Add || p.w.Op == api.Sub) {
		return p.moved(a, b)
	}
	return p.made(a, b)
}

// mov is what is known of what a Mov makes, which does not read Dst. A whole one takes anything over.
func (p *step) mov() (api.Val, api.Errno) {
	v, e := p.second()
	if e != api.OK || p.w.Wide && p.x.Off == 0 {
		return v, e
	}
	return p.made(counted(0), v)
}

// made is what is known of what comes of two numbers.
func (p *step) made(a, b api.Val) (api.Val, api.Errno) {
	if !isNumber(a) || !isNumber(b) {
		return api.Val{}, api.ErrPointer
	}
	f, e := fact.Do(p.w.Op, p.w.Wide, p.x.Off, a.N, b.N)
	return val.Num(f), e
}

// moved is where memory is, a known number of bytes on, or back.
func (p *step) moved(a, b api.Val) (api.Val, api.Errno) {
	n, ok := known(b)
	if !ok {
		return api.Val{}, api.ErrPointer
	}
	if p.w.Op == api.Sub {
		n = -n
	}
	if a, ok = val.Move(a, n); !ok {
		return api.Val{}, api.ErrPointer
	}
	return a, api.OK
}

// swaps is what is known of a number whose bytes are turned about, or cut.
func (p *step) swaps() (api.Val, api.Errno) {
	v, e := p.read(p.x.Dst)
	if e != api.OK {
		return api.Val{}, e
	}
	if !isNumber(v) {
		return api.Val{}, api.ErrPointer
	}
	n, ok := known(v)
	if !ok {
		return sized(p.w.Size), api.OK
	}
	n, e = alu.Swap(p.w.Wide, 8*p.w.Size, n)
	return counted(n), e
}

// word is the word of a map.
func (p *step) word() (api.Val, api.Errno) {
	i := int(p.x.Imm)
	if i >= len(p.g.Defs) {
		return api.Val{}, api.ErrTold
	}
	return api.Val{Kind: api.ValWord, I: i}, api.OK
}
