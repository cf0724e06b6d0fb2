package machine

import (
	"hackle/alu"
	"hackle/api"
	"hackle/code"
	"hackle/cond"
	"hackle/insn"
	"hackle/mem"
)

// Step does an instruction.
func (m *Machine) Step() api.Errno {
	if m.isNone() {
		return api.ErrNone
	}
	if m.over {
		return api.ErrOver
	}
	next, e := m.do()
	if e != api.OK {
		m.over, m.why = true, e
		return e
	}
	m.at = next
	m.steps++
	return api.OK
}

// do does the instruction at the machine's place, and tells the next place. With an error nothing is changed.
func (m *Machine) do() (int, api.Errno) {
	x, next := m.l[m.at], code.Next(m.l, m.at)
	w, _ := code.What(x)
	switch w.Kind {
	case api.Exit:
		return m.at, m.exit()
	case api.Jump:
		return m.target(), api.OK
	case api.Branch:
		return m.branch(x, w, next)
	case api.Call:
		return next, m.call(int(x.Imm))
	case api.Store, api.Put, api.Atom:
		return next, m.store(x, w)
	}
	n, e := m.value(x, w)
	if e != api.OK {
		return 0, e
	}
	m.setReg(x.Dst, n)
	return next, api.OK
}

// exit is the end, with what is in register 0.
func (m *Machine) exit() api.Errno {
	if _, e := m.read(0); e != api.OK {
		return e
	}
	m.over = true
	return api.OK
}

// target is where the instruction at the machine's place jumps to: in a program there is always such a place.
func (m *Machine) target() int {
	to, _ := code.Target(m.l, m.at)
	return to
}

// branch is the next place, or the target, if the condition holds.
func (m *Machine) branch(x api.Insn, w api.What, next int) (int, api.Errno) {
	a, e := m.read(x.Dst)
	if e != api.OK {
		return 0, e
	}
	b, e := m.second(x, w)
	if e != api.OK {
		return 0, e
	}
	holds, e := cond.Is(w.Op, w.Wide, a, b)
	if holds {
		next = m.target()
	}
	return next, e
}

// store changes memory: to a number, or, of an Atom, to what comes of that and of what was there.
func (m *Machine) store(x api.Insn, w api.What) api.Errno {
	at, e := m.read(x.Dst)
	if e != api.OK {
		return e
	}
	n, e := m.second(x, w)
	if e != api.OK {
		return e
	}
	at += uint64(x.Off)
	if w.Kind == api.Atom {
		was, e := m.mem.Load(at, w.Size)
		if e != api.OK {
			return e
		}
		// Of all that an Atom does the lowest bytes hang on the lowest bytes alone, so that wide does for each size.
		n, _ = alu.Do(w.Op, true, 0, was, n)
	}
	return m.mem.Store(at, w.Size, n)
}

// value is what a register becomes by an instruction that changes one.
func (m *Machine) value(x api.Insn, w api.What) (uint64, api.Errno) {
	switch w.Kind {
	case api.Arith:
		return m.arith(x, w)
	case api.Swaps:
		n, e := m.read(x.Dst)
		if e != api.OK {
			return 0, e
		}
		return alu.Swap(w.Wide, 8*w.Size, n)
	case api.Number:
		return insn.Long(x, m.l[m.at+1]), api.OK
	case api.Table:
		if int(x.Imm) >= len(m.defs) {
			return 0, api.ErrTold
		}
		return word(int(x.Imm)), api.OK
	}
	return m.load(x, w)
}

// arith is what arithmetic makes of a register.
func (m *Machine) arith(x api.Insn, w api.What) (uint64, api.Errno) {
	a, e := m.first(x, w)
	if e != api.OK {
		return 0, e
	}
	b, e := m.second(x, w)
	if e != api.OK {
		return 0, e
	}
	return alu.Do(w.Op, w.Wide, x.Off, a, b)
}

// load is a number from memory.
func (m *Machine) load(x api.Insn, w api.What) (uint64, api.Errno) {
	at, e := m.read(x.Src)
	if e != api.OK {
		return 0, e
	}
	n, e := m.mem.Load(at+uint64(x.Off), w.Size)
	if e == api.OK && w.Signed {
		n = alu.Sign(n, 8*w.Size)
	}
	return n, e
}

// first is the number that arithmetic changes: a Mov does not read it, so that it may be unset.
func (m *Machine) first(x api.Insn, w api.What) (uint64, api.Errno) {
	if w.Op == api.Mov {
		return 0, api.OK
	}
	return m.read(x.Dst)
}

// second is the other number: that of a register, or of the instruction.
func (m *Machine) second(x api.Insn, w api.What) (uint64, api.Errno) {
	if w.Reg {
		return m.read(x.Src)
	}
	return uint64(x.Imm), api.OK
}

// read is what is in a register, which must be set.
func (m *Machine) read(i uint8) (uint64, api.Errno) {
	if !m.regs[i].set {
		return 0, api.ErrUnset
	}
	return m.regs[i].n, api.OK
}

// word is the word of a map.
func word(i int) uint64 { return mem.At(wordArea, i) }
