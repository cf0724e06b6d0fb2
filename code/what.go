package code

import (
	"hackle/api"
	"hackle/insn"
)

// Classes: the lowest three bits of Op.
const (
	classDouble       = 0 // of two places
	classLoad         = 1
	classStore        = 2
	classPut          = 3
	classNarrowArith  = 4
	classWideBranch   = 5
	classNarrowBranch = 6
	classWideArith    = 7
)

// Modes: the highest three bits of Op, of what has to do with memory.
const (
	modePlain  = 0x60
	modeSigned = 0x80
	modeAtom   = 0xc0
)

// Ops that stand by themselves.
const (
	nearJump = 5
	farJump  = 6
	call     = 133
	exit     = 149
	swapLow  = 212 // the lowest byte first: nothing is turned about
	swapTurn = 215
	swapHigh = 220 // the highest byte first
)

// frame is the register that is never changed, and the last one.
const frame = 10

// fields are those of an instruction that may be other than 0.
type fields uint8

const (
	changed fields = 1 << iota // Dst, and the instruction changes that register
	dst                        // Dst, and the register stays
	src
	off
	imm
)

// What is what an instruction does.
func What(x api.Insn) (api.What, bool) {
	w, f := told(x)
	if w.Kind == 0 || !only(x, f) || !registers(x, f) {
		return api.What{}, false
	}
	return w, true
}

// only tells whether the fields that are not in f are 0.
func only(x api.Insn, f fields) bool {
	return (x.Dst == 0 || f&(changed|dst) != 0) &&
		(x.Src == 0 || f&src != 0) &&
		(x.Off == 0 || f&off != 0) &&
		(x.Imm == 0 || f&imm != 0)
}

// registers tells whether there are such, and none is changed that must stay.
func registers(x api.Insn, f fields) bool {
	return x.Dst <= frame && x.Src <= frame && (x.Dst != frame || f&changed == 0)
}

// told is what an instruction does, and the fields that it has for that; of none the zero What.
func told(x api.Insn) (api.What, fields) {
	switch insn.Class(x) {
	case classDouble:
		return double(x)
	case classLoad:
		return load(x)
	case classStore:
		return store(x)
	case classPut:
		return put(x)
	case classNarrowArith, classWideArith:
		if high(x) > api.Arsh {
			return swaps(x)
		}
		return arith(x)
	case classWideBranch, classNarrowBranch:
		if w, f := alone(x); w.Kind != 0 {
			return w, f
		}
		return branch(x)
	}
	return api.What{}, 0
}

// high is the highest four bits of Op: which arithmetic, or condition.
func high(x api.Insn) uint8 { return x.Op & 0xf0 }

// mode is the highest three bits of Op.
func mode(x api.Insn) uint8 { return x.Op & 0xe0 }

// reg tells whether the second number is in a register.
func reg(x api.Insn) bool { return x.Op&8 != 0 }

// second is the field that has the second number.
func second(x api.Insn) fields {
	if reg(x) {
		return src
	}
	return imm
}

// sizeOf is how many bytes of memory Op tells of.
func sizeOf(x api.Insn) int { return [...]int{4, 2, 1, 8}[x.Op>>3&3] }

// double is what an instruction of two places does.
func double(x api.Insn) (api.What, fields) {
	switch {
	case !insn.Wide(x):
		return api.What{}, 0
	case x.Src == 0:
		return api.What{Kind: api.Number, Wide: true}, changed | imm
	case x.Src == 1 && x.Imm >= 0:
		return api.What{Kind: api.Table, Wide: true}, changed | src | imm
	}
	return api.What{}, 0
}

// load is what an instruction does that reads memory.
func load(x api.Insn) (api.What, fields) {
	w := api.What{Kind: api.Load, Size: sizeOf(x), Signed: mode(x) == modeSigned}
	// Of eight bytes all bits are there: none is left that a sign could fill.
	if mode(x) == modePlain || w.Signed && w.Size < 8 {
		return w, changed | src | off
	}
	return api.What{}, 0
}

// store is what an instruction does that puts its number into memory.
func store(x api.Insn) (api.What, fields) {
	if mode(x) != modePlain {
		return api.What{}, 0
	}
	return api.What{Kind: api.Store, Size: sizeOf(x)}, dst | off | imm
}

// put is what an instruction does that puts a register into memory.
func put(x api.Insn) (api.What, fields) {
	w := api.What{Kind: api.Put, Reg: true, Size: sizeOf(x)}
	switch {
	case mode(x) == modePlain:
		return w, dst | src | off
	case mode(x) == modeAtom && w.Size >= 4 && isAtom(x.Imm):
		w.Kind, w.Op = api.Atom, uint8(x.Imm)
		return w, dst | src | off | imm
	}
	return api.What{}, 0
}

// isAtom tells whether there is arithmetic of that number that is done in memory.
func isAtom(n int32) bool {
	switch n {
	case int32(api.Add), int32(api.Or), int32(api.And), int32(api.Xor):
		return true
	}
	return false
}

// swaps is what an instruction does that turns bytes about, or cuts them.
func swaps(x api.Insn) (api.What, fields) {
	if !isSwap(x.Op) || x.Imm != 16 && x.Imm != 32 && x.Imm != 64 {
		return api.What{}, 0
	}
	return api.What{Kind: api.Swaps, Wide: x.Op != swapLow, Size: int(x.Imm) / 8}, changed | imm
}

// isSwap tells whether an Op turns bytes about, or cuts them.
func isSwap(op uint8) bool { return op == swapLow || op == swapTurn || op == swapHigh }

// arith is what an instruction of arithmetic does.
func arith(x api.Insn) (api.What, fields) {
	w := api.What{Kind: api.Arith, Op: high(x), Wide: insn.Class(x) == classWideArith, Reg: reg(x)}
	switch {
	case !offFits(w, x.Off):
		return api.What{}, 0
	case w.Op != api.Neg:
		return w, changed | second(x) | off
	case w.Reg:
		return api.What{}, 0
	}
	return w, changed
}

// offFits tells whether there is such arithmetic with that Off.
func offFits(w api.What, off int16) bool {
	switch {
	case off == 0:
		return true
	case w.Op == api.Div || w.Op == api.Mod:
		return off == 1
	case w.Op == api.Mov && w.Reg:
		return off == 8 || off == 16 || off == 32 && w.Wide
	}
	return false
}

// alone is what an instruction does that goes elsewhere, whatever its numbers are.
func alone(x api.Insn) (api.What, fields) {
	switch x.Op {
	case nearJump:
		return api.What{Kind: api.Jump}, off
	case farJump:
		return api.What{Kind: api.Jump}, imm
	case call:
		return api.What{Kind: api.Call}, imm
	case exit:
		return api.What{Kind: api.Exit}, 0
	}
	return api.What{}, 0
}

// branch is what an instruction does that jumps if a condition holds.
func branch(x api.Insn) (api.What, fields) {
	switch high(x) {
	case api.Jeq, api.Jne, api.Jset, api.Jgt, api.Jge, api.Jlt, api.Jle, api.Jsgt, api.Jsge, api.Jslt, api.Jsle:
		w := api.What{Kind: api.Branch, Op: high(x), Wide: insn.Class(x) == classWideBranch, Reg: reg(x)}
		return w, dst | second(x) | off
	}
	return api.What{}, 0
}
