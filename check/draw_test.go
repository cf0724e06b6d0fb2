package check_test

import (
	"math/rand/v2"

	"hackle/api"
	"hackle/check"
	"hackle/code"
)

// drawer draws programs, most of which may run, or nearly.
type drawer struct {
	r   *rand.Rand
	g   api.Given
	l   []api.Insn
	far []int // what jumps, but knows not yet how far
}

// someProgram is a program, mostly one that may run, and what it is given.
func someProgram(r *rand.Rand) ([]api.Insn, api.Given) {
	d := &drawer{r: r, g: someGiven(r)}
	d.ahead()
	for n := 10 + r.IntN(50); len(d.l) < n; {
		d.piece(2)
	}
	d.add(set(0, int32(r.IntN(9))), exit)
	d.aim()
	if r.IntN(3) > 0 {
		d.mend()
	}
	if r.IntN(50) == 0 {
		d.spoil()
	}
	return d.l, d.g
}

// someGiven is what a program is given.
func someGiven(r *rand.Rand) api.Given {
	g := api.Given{Ctx: one(r, 0, 8, 16, 64, 64)}
	for range r.IntN(4) {
		def := api.Def{Hash: true, Key: one(r, 1, 4, 8), Val: one(r, 8, 16, 64), Max: 1 + r.IntN(3)}
		if r.IntN(2) == 0 {
			def.Hash, def.Key = false, 4
		}
		g.Defs = append(g.Defs, def)
	}
	return g
}

// add adds instructions.
func (d *drawer) add(x ...api.Insn) { d.l = append(d.l, x...) }

// reg is a register that mostly holds a number; any is any register that may be changed.
func (d *drawer) reg() uint8 { return one[uint8](d.r, 0, 3, 5, 6, 7) }
func (d *drawer) any() uint8 { return uint8(d.r.IntN(10)) }

// imm is a number of an instruction, mostly small.
func (d *drawer) imm() int32 {
	return one(d.r, 0, 1, 2, 3, 5, 7, 8, 64, -1, -8, d.r.Int32(), -d.r.Int32())
}

// ahead puts something in the registers, and in some of the stack.
func (d *drawer) ahead() {
	d.add(mov(8, 1))
	for _, i := range []uint8{3, 5, 6, 7} {
		switch d.r.IntN(4) {
		case 0:
			d.add(api.Insn{Op: 24, Dst: i, Imm: d.imm()}, api.Insn{Imm: d.imm()})
		case 1:
			d.add(api.Insn{Op: one[uint8](d.r, 0x61, 0x69, 0x71, 0x79), Dst: i, Src: 8, Off: int16(d.r.IntN(9))})
		default:
			d.add(set(i, d.imm()))
		}
	}
	for off := int16(-48); off < 0; off += 8 {
		if d.r.IntN(4) > 0 {
			d.add(api.Insn{Op: 0x7a, Dst: 10, Off: off, Imm: int32(d.r.IntN(3))})
		}
	}
	if d.r.IntN(3) > 0 {
		d.add(chance)
		d.add(api.Insn{Op: 0x57, Imm: one[int32](d.r, 1, 7, 12, 255)})
	} else {
		d.add(set(0, d.imm()))
	}
}

// piece adds some instructions that belong together.
func (d *drawer) piece(deep int) {
	switch d.r.IntN(17) {
	case 0, 1, 2, 3:
		d.arith()
	case 4, 5:
		d.memory()
	case 6, 7, 8, 9:
		d.fork(deep)
	case 10, 11:
		d.circle(deep)
	case 12:
		d.helper()
	case 13:
		d.lookUp()
	case 14:
		d.seldom()
	case 15:
		d.aside()
	case 16:
		d.mixed()
	}
}

// arith adds arithmetic.
func (d *drawer) arith() {
	op := one[uint8](d.r, 0x00, 0x10, 0x20, 0x30, 0x40, 0x50, 0x60, 0x70, 0x90, 0xa0, 0xb0, 0xb0, 0xb0, 0xc0)
	x := api.Insn{Op: op | one[uint8](d.r, 4, 7, 7), Dst: d.reg(), Imm: d.imm()}
	switch d.r.IntN(8) {
	case 0, 1, 2:
		x.Op, x.Src, x.Imm = x.Op|8, d.reg(), 0
	case 3:
		x = api.Insn{Op: one[uint8](d.r, 0xd4, 0xdc, 0xd7), Dst: d.reg(), Imm: one[int32](d.r, 16, 32, 64)}
	case 4:
		x = api.Insn{Op: one[uint8](d.r, 0x84, 0x87), Dst: d.reg()}
	}
	d.add(x)
}

// memory adds what goes to the stack, or comes from there, or from what is given.
func (d *drawer) memory() {
	off := -8 * int16(1+d.r.IntN(6))
	switch d.r.IntN(6) {
	case 0:
		d.add(api.Insn{Op: one[uint8](d.r, 0x79, 0x79, 0x61, 0x71, 0x91), Dst: d.reg(), Src: 10, Off: off})
	case 1:
		d.add(api.Insn{Op: one[uint8](d.r, 0x7a, 0x62, 0x72), Dst: 10, Off: off, Imm: d.imm()})
	case 2, 3:
		d.add(api.Insn{Op: 0x7b, Dst: 10, Src: one(d.r, d.reg(), d.reg(), 8, 10), Off: off})
	case 4:
		d.add(api.Insn{Op: one[uint8](d.r, 0xdb, 0xc3), Dst: 10, Src: d.reg(), Off: off, Imm: one[int32](d.r, 0, 0x40, 0x50, 0xa0)})
	case 5:
		d.add(api.Insn{Op: one[uint8](d.r, 0x61, 0x71, 0x79), Dst: d.reg(), Src: 8, Off: int16(d.r.IntN(12))})
	}
}

// test is a Branch that knows not yet how far it jumps.
func (d *drawer) test() api.Insn {
	op := one[uint8](d.r, 0x10, 0x20, 0x30, 0x40, 0x50, 0x60, 0x70, 0xa0, 0xb0, 0xc0, 0xd0) | one[uint8](d.r, 5, 5, 6)
	if d.r.IntN(3) == 0 {
		return api.Insn{Op: op | 8, Dst: d.reg(), Src: d.reg()}
	}
	return api.Insn{Op: op, Dst: d.reg(), Imm: d.imm()}
}

// fork adds two ways, or one that may be gone.
func (d *drawer) fork(deep int) {
	at := len(d.l)
	d.add(d.test())
	d.some(deep)
	if d.r.IntN(2) == 0 {
		end := len(d.l)
		d.add(jump(0))
		d.l[at].Off = int16(len(d.l) - at - 1)
		d.some(deep)
		d.l[end].Off = int16(len(d.l) - end - 1)
		return
	}
	d.l[at].Off = int16(len(d.l) - at - 1)
}

// mixed adds two ways on which a register becomes something else, and one from there on.
func (d *drawer) mixed() {
	x := d.test()
	x.Off = 1
	l := ins(set(4, d.imm()), x, mov(4, one[uint8](d.r, 10, 10, 8)))
	if d.r.IntN(3) == 0 {
		l[0], l[2] = l[2], l[0]
	}
	d.add(append(l, mov(2, 4))...)
}

// some adds a few pieces.
func (d *drawer) some(deep int) {
	for range d.r.IntN(3) {
		if deep > 0 {
			d.piece(deep - 1)
		} else {
			d.arith()
		}
	}
}

// circle adds something that is done some times, or till a number is as it is asked.
func (d *drawer) circle(deep int) {
	if d.r.IntN(3) > 0 {
		d.add(set(9, 0))
	} else {
		d.add(mov(9, 0), api.Insn{Op: 0x57, Dst: 9, Imm: 15})
	}
	at := len(d.l)
	d.some(deep - 1)
	d.add(add(9, 1), branch(one[uint8](d.r, jlt, jlt, jlt, jle, jne), 9, 1+d.r.Int32N(22), 0))
	d.l[len(d.l)-1].Off = int16(at - len(d.l))
}

// helper adds a call of a helper that tells a number.
func (d *drawer) helper() {
	id := one[int32](d.r, 5, 6, 7, 7, 7, 8)
	if id == 6 {
		d.add(set(1, d.imm()), set(2, d.imm()))
	}
	d.add(api.Insn{Op: 0x85, Imm: id})
	d.add(mov(d.reg(), 0))
	d.add(set(3, d.imm()), set(5, d.imm()))
}

// lookUp adds a call that is told a map, and mostly what is done with what is found there.
func (d *drawer) lookUp() {
	if len(d.g.Defs) == 0 {
		return
	}
	d.add(api.Insn{Op: 0x7a, Dst: 10, Off: -8, Imm: int32(d.r.IntN(3))}, api.Insn{Op: 24, Dst: 1, Src: 1, Imm: d.r.Int32N(int32(len(d.g.Defs)))}, api.Insn{}, mov(2, 10), add(2, -8))
	id := one[int32](d.r, 1, 1, 1, 2, 3)
	if id == 2 {
		for off := int16(-112); off < -48; off += 8 {
			d.add(api.Insn{Op: 0x7a, Dst: 10, Off: off, Imm: d.imm()})
		}
		d.add(mov(3, 10), add(3, -112), set(4, d.r.Int32N(4)))
	}
	d.add(api.Insn{Op: 0x85, Imm: id}, set(3, 1), set(5, 2))
	if id == 1 && d.r.IntN(8) > 0 {
		x := api.Insn{Op: one[uint8](d.r, 0x79, 0x61, 0x71), Dst: d.reg(), Off: int16(d.r.IntN(6))}
		if d.r.IntN(3) == 0 {
			x = api.Insn{Op: one[uint8](d.r, 0x7b, 0x63, 0xdb), Src: one[uint8](d.r, 6, 7), Off: int16(d.r.IntN(5))}
		}
		d.add(branch(jeq, 0, 0, 1), x, set(0, d.imm()))
	}
}

// seldom adds any one instruction, of which few may be done.
func (d *drawer) seldom() {
	if d.r.IntN(3) > 0 {
		d.add(one(d.r, exit, api.Insn{Op: 0x85, Imm: d.r.Int32N(9)}, mov(d.any(), d.any()), add(d.any(), d.imm()), api.Insn{Op: 0x7a, Dst: d.any(), Off: int16(d.r.IntN(64))}, api.Insn{Op: 0x79, Dst: d.any(), Src: d.any(), Off: -int16(d.r.IntN(64))},
			branch(jne, d.any(), 0, 0), api.Insn{Op: 0x7b, Dst: 10, Src: d.any(), Off: -int16(d.r.IntN(40))}))
	} else {
		d.add(api.Insn{Op: 24, Dst: d.any(), Src: uint8(d.r.IntN(2)), Imm: d.r.Int32N(5)}, api.Insn{})
	}
}

// aside adds what jumps anywhere: aim tells how far.
func (d *drawer) aside() {
	d.far = append(d.far, len(d.l))
	d.add(one(d.r, d.test(), d.test(), d.test(), jump(0), api.Insn{Op: 6}))
}

// aim gives those that jump anywhere a target, mostly one not far behind them.
func (d *drawer) aim() {
	var begins []int
	for i := 0; i < len(d.l); i = code.Next(d.l, i) {
		begins = append(begins, i)
	}
	for n, i := range begins {
		for _, at := range d.far {
			if i != at {
				continue
			}
			to := max(0, min(len(begins)-1, n+one(d.r, 1, 2, 2, 3, 3, 4, 5, 8, 20, 0, -2, -7)))
			if d.l[i].Op == 6 {
				d.l[i].Imm = int32(begins[to] - i - 1)
			} else {
				d.l[i].Off = int16(begins[to] - i - 1)
			}
		}
	}
}

// mend makes what may not be done something that may, as long as it helps.
func (d *drawer) mend() {
	for range 40 {
		v := check.Program(d.l, d.g)
		x := &d.l[v.At]
		switch v.Code {
		case 0, errArg:
			return
		case errBudget:
			if !d.shorten() {
				return
			}
		default:
			if x.Op == 24 {
				d.l[v.At+1] = set(x.Dst, 1)
			}
			*x = set(one(d.r, x.Dst%10, x.Src%10, 0), int32(d.r.IntN(9)))
		}
	}
}

// shorten makes one of those that jump back jump no more; false: it does not want to, or there is none.
func (d *drawer) shorten() bool {
	if d.r.IntN(4) == 0 {
		return false
	}
	for _, i := range d.r.Perm(len(d.l)) {
		if to, ok := code.Target(d.l, i); ok && to <= i {
			d.l[i] = set(d.reg(), 1)
			return true
		}
	}
	return false
}

// spoil makes it no program, or what it is given wrong.
func (d *drawer) spoil() {
	switch d.r.IntN(3) {
	case 0:
		d.g.Ctx = one(d.r, -1, 65)
	case 1:
		d.g.Defs = append(d.g.Defs, api.Def{Key: 4, Val: 7, Max: 1})
	case 2:
		d.l[d.r.IntN(len(d.l))] = one(d.r, api.Insn{}, jump(500), mov(10, 1))
	}
}
