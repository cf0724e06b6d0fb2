package walk_test

import (
	"math"
	"testing"

	"hackle/api"
	"hackle/fact"
)

// Where a branch is asked to go: to the place of an Exit, of the Number ahead of it, to itself, or to the next one.
const (
	next = place + 1
	hop  = place + 2
)

// toHop is the Off that goes there.
const toHop = hop - next

// conds are the Ops of conditions, and those that hold just if they do not.
func conds() map[uint8]uint8 {
	return map[uint8]uint8{0x10: 0x50, 0x50: 0x10, 0x20: 0xb0, 0xb0: 0x20, 0x30: 0xa0, 0xa0: 0x30, 0x60: 0xd0, 0xd0: 0x60, 0x70: 0xc0, 0xc0: 0x70}
}

// P14.4: a Jump goes to its target alone, with all as it was, whatever that is.
func TestJump(t *testing.T) {
	for _, s := range []api.State{first(), busy(), reg(busy(), 0, none())} {
		for off, to := range map[int]int{0: next, 1: hop, -1: place, -2: 2, -4: 0} {
			goes(t, s, ins(api.Insn{Op: 5, Off: int16(off)}), way(to, s))
			goes(t, s, ins(api.Insn{Op: 6, Imm: int32(off)}), way(to, s))
		}
	}
}

// P14.4: where memory is is never 0.
func TestBranchOfPlaces(t *testing.T) {
	for _, v := range append(places(), stack(512)) {
		s := reg(busy(), 3, v)
		for off, to := range map[int16]int{0: next, 1: hop, -1: place, -4: 0} {
			goes(t, s, ins(api.Insn{Op: 0x15, Dst: 3, Off: off}), way(next, s))
			goes(t, s, ins(api.Insn{Op: 0x55, Dst: 3, Off: off}), way(to, s))
		}
		s = reg(s, 4, of(0))
		goes(t, s, ins(api.Insn{Op: 0x1d, Dst: 3, Src: 4, Off: toHop}), way(next, s))
		goes(t, s, ins(api.Insn{Op: 0x5d, Dst: 3, Src: 4, Off: toHop}), way(hop, s))
	}
	goes(t, busy(), ins(api.Insn{Op: 0x15, Dst: 10, Off: toHop}), way(next, busy()))
	goes(t, busy(), ins(api.Insn{Op: 0x55, Dst: 10, Off: toHop}), way(hop, busy()))
}

// P14.4: where a value may be: on one way it is there, on the other one it is 0.
func TestBranchOfMaybe(t *testing.T) {
	for _, i := range []int{0, 1, 2, 7} {
		s := reg(busy(), 3, maybe(i))
		is, not := reg(s, 3, in(i, 0)), reg(s, 3, of(0))
		for off, to := range map[int16]int{0: next, 1: hop, -1: place, -4: 0} {
			goes(t, s, ins(api.Insn{Op: 0x15, Dst: 3, Off: off}), way(next, is), way(to, not))
			goes(t, s, ins(api.Insn{Op: 0x55, Dst: 3, Off: off}), way(next, not), way(to, is))
		}
		s, is, not = reg(s, 4, of(0)), reg(is, 4, of(0)), reg(not, 4, of(0))
		goes(t, s, ins(api.Insn{Op: 0x1d, Dst: 3, Src: 4, Off: toHop}), way(next, is), way(hop, not))
		goes(t, s, ins(api.Insn{Op: 0x5d, Dst: 3, Src: 4, Off: toHop}), way(next, not), way(hop, is))
	}
	// Only that register is told, though another one has the same.
	s := reg(reg(busy(), 0, maybe(1)), 6, maybe(1))
	goes(t, s, ins(api.Insn{Op: 0x15, Off: toHop}), way(next, reg(s, 0, in(1, 0))), way(hop, reg(s, 0, of(0))))
}

// P14.4: ErrPointer of what is no number, but where it is asked whether all of it is 0.
func TestBranchOfOthers(t *testing.T) {
	for op := range conds() {
		branchOfOthers(t, op)
	}
	branchOfOthers(t, 0x40)
}

// branchOfOthers asks a condition of what is no number.
func branchOfOthers(t *testing.T, op uint8) {
	t.Helper()
	narrow, wide := op|6, op|5
	for _, v := range others() {
		s := reg(busy(), 3, v)
		refuses(t, s, ins(api.Insn{Op: narrow, Dst: 3, Off: toHop}), errPointer)
		refuses(t, reg(s, 4, of(0)), ins(api.Insn{Op: narrow | 8, Dst: 3, Src: 4, Off: toHop}), errPointer)
		if op != 0x10 && op != 0x50 || v.Kind == 4 {
			refuses(t, s, ins(api.Insn{Op: wide, Dst: 3, Off: toHop}), errPointer)
			refuses(t, reg(s, 4, of(0)), ins(api.Insn{Op: wide | 8, Dst: 3, Src: 4, Off: toHop}), errPointer)
		}
		for _, imm := range []int32{1, -1, math.MinInt32, 256} {
			refuses(t, s, ins(api.Insn{Op: wide, Dst: 3, Off: toHop, Imm: imm}), errPointer)
		}
		for _, w := range append(others(), of(1), of(1<<32), of(1<<63), anything(), upTo(1), upTo(8), nothing()) {
			refuses(t, reg(s, 4, w), ins(api.Insn{Op: wide | 8, Dst: 3, Src: 4, Off: toHop}), errPointer)
		}
		for _, n := range []api.Val{of(0), of(5), anything()} {
			refuses(t, reg(reg(busy(), 3, n), 4, v), ins(api.Insn{Op: wide | 8, Dst: 3, Src: 4, Off: toHop}), errPointer)
			refuses(t, reg(reg(busy(), 3, n), 4, v), ins(api.Insn{Op: narrow | 8, Dst: 3, Src: 4, Off: toHop}), errPointer)
		}
		refuses(t, s, ins(api.Insn{Op: wide | 8, Dst: 3, Src: 3, Off: toHop}), errPointer)
	}
}

// may is the ways of a condition of two numbers, in registers 3 and 4 (or of the instruction: no register 4), by layer 6's If.
func may(s api.State, op uint8, wide bool, a, b api.Val, isReg bool) []api.Way {
	var l []api.Way
	for _, c := range []struct {
		op uint8
		at int
	}{{conds()[op], next}, {op, hop}} {
		x, y, may := fact.If(c.op, wide, a.N, b.N)
		if !may {
			continue
		}
		to := reg(s, 3, num(x))
		if isReg {
			to = reg(to, 4, num(y))
		}
		l = append(l, way(c.at, to))
	}
	return l
}

// P14.4: conditions of numbers, but Jset: each way that may be, with what is known there.
func TestBranchOfNumbers(t *testing.T) {
	for op := range conds() {
		for class, wide := range map[uint8]bool{5: true, 6: false} {
			for _, a := range numbers() {
				for _, b := range numbers() {
					s := reg(reg(busy(), 3, a), 4, b)
					goes(t, s, ins(api.Insn{Op: op | class | 8, Dst: 3, Src: 4, Off: toHop}), may(s, op, wide, a, b, true)...)
				}
				for _, imm := range []int32{0, 1, 5, 7, 255, -1, math.MaxInt32, math.MinInt32} {
					s := reg(busy(), 3, a)
					goes(t, s, ins(api.Insn{Op: op | class, Dst: 3, Off: toHop, Imm: imm}), may(s, op, wide, a, of(uint64(imm)), false)...)
				}
			}
		}
	}
}

// P14.4: conditions of numbers, written out.
func TestBranchByHand(t *testing.T) {
	s := reg(busy(), 0, fromTo(3, 100))
	with := func(low, high uint64) api.State { return reg(s, 0, fromTo(low, high)) }
	// Register 0 stands in Src of what has no Src.
	goes(t, s, ins(api.Insn{Op: 0x25, Off: toHop, Imm: 8}), way(next, with(3, 8)), way(hop, with(9, 100)))
	goes(t, s, ins(api.Insn{Op: 0x15, Off: toHop, Imm: 3}), way(next, with(4, 100)), way(hop, reg(s, 0, of(3))))
	goes(t, s, ins(api.Insn{Op: 0x55, Off: toHop, Imm: 100}), way(next, reg(s, 0, of(100))), way(hop, with(3, 99)))
	goes(t, s, ins(api.Insn{Op: 0xa5, Off: toHop, Imm: 3}), way(next, s))
	goes(t, s, ins(api.Insn{Op: 0xa6, Off: toHop, Imm: 101}), way(hop, s))
	goes(t, s, ins(api.Insn{Op: 0xb5, Off: -4, Imm: -1}), way(0, s))
	goes(t, s, ins(api.Insn{Op: 0xc5, Off: toHop, Imm: -1}), way(next, s), way(hop, s))
	goes(t, s, ins(api.Insn{Op: 0x25, Off: 0, Imm: 8}), way(next, with(3, 8)), way(next, with(9, 100)))
	s = reg(reg(busy(), 3, fromTo(0, 9)), 4, fromTo(5, 20))
	both := func(a, b api.Val) api.State { return reg(reg(s, 3, a), 4, b) }
	goes(t, s, ins(api.Insn{Op: 0x1d, Dst: 3, Src: 4, Off: toHop}), way(next, s), way(hop, both(fromTo(5, 9), fromTo(5, 9))))
	goes(t, s, ins(api.Insn{Op: 0x2d, Dst: 3, Src: 4, Off: toHop}), way(next, s), way(hop, both(fromTo(6, 9), fromTo(5, 8))))
	goes(t, s, ins(api.Insn{Op: 0x3e, Dst: 3, Src: 4, Off: toHop}), way(next, s), way(hop, both(fromTo(5, 9), fromTo(5, 9))))
	s = reg(reg(busy(), 3, of(7)), 4, of(neg(1)))
	goes(t, s, ins(api.Insn{Op: 0x2d, Dst: 3, Src: 4, Off: toHop}), way(next, s))
	goes(t, s, ins(api.Insn{Op: 0x6d, Dst: 3, Src: 4, Off: toHop}), way(hop, s))
}

// P14.4: the number of an instruction has 64 bits: narrow, one below 0 tells nothing of what is not known.
func TestBranchOfNumbersBelow0(t *testing.T) {
	s := reg(busy(), 3, fromTo(3, 100))
	goes(t, s, ins(api.Insn{Op: 0x16, Dst: 3, Off: toHop, Imm: -1}), way(next, s), way(hop, s))
	goes(t, s, ins(api.Insn{Op: 0x15, Dst: 3, Off: toHop, Imm: -1}), way(next, s))
	s = reg(busy(), 3, of(math.MaxUint32))
	goes(t, s, ins(api.Insn{Op: 0x16, Dst: 3, Off: toHop, Imm: -1}), way(hop, s))
	goes(t, s, ins(api.Insn{Op: 0x15, Dst: 3, Off: toHop, Imm: -1}), way(next, s))
}

// P14.4: Jset goes on, but if both are known and have a bit in common; what it goes on with is as it was.
func TestBranchOfJset(t *testing.T) {
	for class, wide := range map[uint8]bool{5: true, 6: false} {
		for _, a := range numbers() {
			for _, b := range numbers() {
				s := reg(reg(busy(), 3, a), 4, b)
				goes(t, s, ins(api.Insn{Op: 0x48 | class, Dst: 3, Src: 4, Off: toHop}), maySet(s, wide, a, b, true)...)
			}
			for _, imm := range []int32{0, 1, 6, -1, math.MinInt32} {
				s := reg(busy(), 3, a)
				goes(t, s, ins(api.Insn{Op: 0x40 | class, Dst: 3, Off: toHop, Imm: imm}), maySet(s, wide, a, of(uint64(imm)), false)...)
			}
		}
	}
	s := reg(busy(), 3, of(6))
	goes(t, s, ins(api.Insn{Op: 0x45, Dst: 3, Off: toHop, Imm: 2}), way(hop, s))
	goes(t, s, ins(api.Insn{Op: 0x45, Dst: 3, Off: toHop, Imm: 1}), way(next, s))
	s = reg(busy(), 3, of(1<<32))
	goes(t, s, ins(api.Insn{Op: 0x46, Dst: 3, Off: toHop, Imm: -1}), way(next, s))
	goes(t, s, ins(api.Insn{Op: 0x45, Dst: 3, Off: toHop, Imm: -1}), way(hop, s))
	// All that it may be has that bit, but it is not known: it goes on, too.
	s = reg(busy(), 3, num(settled(1, math.MaxUint64-1, 0, math.MaxUint64)))
	goes(t, s, ins(api.Insn{Op: 0x45, Dst: 3, Off: toHop, Imm: 1}), way(next, s), way(hop, s))
	goes(t, s, ins(api.Insn{Op: 0x45, Dst: 3, Off: toHop}), way(next, s))
}

// maySet is the ways of Jset.
func maySet(s api.State, wide bool, a, b api.Val, isReg bool) []api.Way {
	var l []api.Way
	bits := a.N.Bits.Value & b.N.Bits.Value
	if !wide {
		bits &= math.MaxUint32
	}
	if a.N.Bits.Mask != 0 || b.N.Bits.Mask != 0 || bits == 0 {
		l = append(l, way(next, s))
	}
	if x, y, may := fact.If(0x40, wide, a.N, b.N); may {
		to := reg(s, 3, num(x))
		if isReg {
			to = reg(to, 4, num(y))
		}
		l = append(l, way(hop, to))
	}
	return l
}

// P14.4: a register that is held against itself stays as it was, on each way that may be.
func TestBranchOfOneRegister(t *testing.T) {
	for op, not := range conds() {
		for class, wide := range map[uint8]bool{5: true, 6: false} {
			for _, a := range numbers() {
				var want []api.Way
				s := reg(busy(), 3, a)
				if _, _, may := fact.If(not, wide, a.N, a.N); may {
					want = append(want, way(next, s))
				}
				if _, _, may := fact.If(op, wide, a.N, a.N); may {
					want = append(want, way(hop, s))
				}
				goes(t, s, ins(api.Insn{Op: op | class | 8, Dst: 3, Src: 3, Off: toHop}), want...)
			}
		}
	}
	s := reg(busy(), 3, fromTo(3, 100))
	goes(t, s, ins(api.Insn{Op: 0xad, Dst: 3, Src: 3, Off: toHop}), way(next, s), way(hop, s))
	goes(t, s, ins(api.Insn{Op: 0x4d, Dst: 3, Src: 3, Off: toHop}), way(next, s), way(hop, s))
	s = reg(busy(), 0, fromTo(3, 100))
	goes(t, s, ins(api.Insn{Op: 0xad, Off: toHop}), way(next, s), way(hop, s))
	s = reg(busy(), 3, of(3))
	goes(t, s, ins(api.Insn{Op: 0x1d, Dst: 3, Src: 3, Off: toHop}), way(hop, s))
	goes(t, s, ins(api.Insn{Op: 0x5d, Dst: 3, Src: 3, Off: toHop}), way(next, s))
}

// P14.4: of a number that none is no way may be left.
func TestBranchOfNothing(t *testing.T) {
	s := reg(busy(), 3, nothing())
	goes(t, s, ins(api.Insn{Op: 0x15, Dst: 3, Off: toHop, Imm: 3}))
	goes(t, s, ins(api.Insn{Op: 0x15, Dst: 3, Off: toHop, Imm: 9}), way(next, s))
}

// P14.5: Exit, of a number in register 0: no way; else an error.
func TestExit(t *testing.T) {
	for _, v := range numbers() {
		goes(t, reg(busy(), 0, v), ins(exit))
		goes(t, reg(first(), 0, v), ins(exit))
	}
	for _, v := range others() {
		refuses(t, reg(busy(), 0, v), ins(exit), errPointer)
	}
	refuses(t, reg(busy(), 0, none()), ins(exit), errUnset)
}
