package walk

import (
	"hackle/api"
	"hackle/cond"
	"hackle/fact"
	"hackle/val"
)

// branch is both ways, or one of them.
func (p *step) branch() ([]api.Way, api.Errno) {
	a, b, e := p.pair()
	switch {
	case e != api.OK:
		return nil, e
	case p.asksNought(b) && val.Pointer(a):
		return p.ofPointer(), api.OK
	case p.asksNought(b) && a.Kind == api.ValMaybe:
		return p.ofMaybe(a.I), api.OK
	case !isNumber(a) || !isNumber(b):
		return nil, api.ErrPointer
	}
	return p.ofNumbers(a.N, b.N), api.OK
}

// asksNought tells whether it is asked if something is 0, all of it: b is what that is held against.
func (p *step) asksNought(b api.Val) bool {
	n, ok := known(b)
	return p.w.Wide && (p.w.Op == api.Jeq || p.w.Op == api.Jne) && ok && n == 0
}

// ofPointer is the one way of what is where memory is: that is never 0.
func (p *step) ofPointer() []api.Way {
	if p.w.Op == api.Jeq {
		return p.one(p.next())
	}
	return p.one(p.target())
}

// ofMaybe is both ways of what is where a value of map i is, or 0: on each it is known which.
func (p *step) ofMaybe(i int) []api.Way {
	next, target := api.Val{Kind: api.ValIn, I: i}, counted(0)
	if p.w.Op == api.Jne {
		next, target = target, next
	}
	return []api.Way{p.with(p.next(), next), p.with(p.target(), target)}
}

// with is a way with Dst.
func (p *step) with(to int, v api.Val) api.Way {
	w := api.Way{At: to, S: p.s}
	w.S.Regs[p.x.Dst] = v
	return w
}

// ofNumbers is those ways of two numbers that there may be, with what the condition tells there.
func (p *step) ofNumbers(a, b api.Fact) []api.Way {
	var l []api.Way
	if x, y, may := p.fails(a, b); may {
		l = append(l, p.withBoth(p.next(), x, y))
	}
	if x, y, may := fact.If(p.w.Op, p.w.Wide, a, b); may {
		l = append(l, p.withBoth(p.target(), x, y))
	}
	return l
}

// fails is what is known of both numbers, if the condition does not hold; false: it must.
func (p *step) fails(a, b api.Fact) (x, y api.Fact, may bool) {
	if not, ok := cond.Not(p.w.Op); ok {
		return fact.If(not, p.w.Wide, a, b)
	}
	// There is no condition that no bit is in common: only of two numbers that are known it can be told.
	m, isKnown := fact.Known(a)
	n, areKnown := fact.Known(b)
	holds, _ := cond.Is(p.w.Op, p.w.Wide, m, n)
	return a, b, !(isKnown && areKnown && holds)
}

// withBoth is a way with both numbers. A register that is held against itself stays as it is.
func (p *step) withBoth(to int, x, y api.Fact) api.Way {
	w := api.Way{At: to, S: p.s}
	if p.w.Reg && p.x.Dst == p.x.Src {
		return w
	}
	w.S.Regs[p.x.Dst] = val.Num(x)
	if p.w.Reg {
		w.S.Regs[p.x.Src] = val.Num(y)
	}
	return w
}
