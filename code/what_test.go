package code_test

import (
	"math"
	"testing"

	"hackle/api"
	"hackle/code"
)

// may tells whether a field may be a number.
type may func(n int) bool

func anything(n int) bool { return true }

func nought(n int) bool { return n == 0 }

func read(n int) bool { return n >= 0 && n <= 10 }

func written(n int) bool { return n >= 0 && n <= 9 }

func oneOf(all ...int) may {
	return func(n int) bool {
		for _, m := range all {
			if m == n {
				return true
			}
		}
		return false
	}
}

// shape is a kind of instructions: what they do, and what their fields may be.
type shape struct {
	w                  api.What
	dst, src, off, imm may
}

// has tells whether an instruction is of a shape.
func (s shape) has(x api.Insn) bool {
	return s.dst(int(x.Dst)) && s.src(int(x.Src)) && s.off(int(x.Off)) && s.imm(int(x.Imm))
}

// shapes is the chapter's list of what there is, Op by Op, their numbers written out.
var shapes = allShapes()

func allShapes() map[uint8][]shape {
	all := map[uint8][]shape{}
	addArith(all)
	addSwaps(all)
	addMemory(all)
	addJumps(all)
	all[24] = []shape{
		{api.What{Kind: 3, Wide: true}, written, nought, nought, anything},
		{api.What{Kind: 4, Wide: true}, written, oneOf(1), nought, func(n int) bool { return n >= 0 }},
	}
	all[133] = []shape{{api.What{Kind: 11}, nought, nought, nought, anything}}
	all[149] = []shape{{api.What{Kind: 12}, nought, nought, nought, nought}}
	return all
}

// addArith adds arithmetic: of each kind the Ops that are narrow, narrow with a register, wide, wide with a register.
func addArith(all map[uint8][]shape) {
	for _, a := range []struct {
		op  uint8
		ops [4]uint8
		off [4]may
	}{
		{0, [4]uint8{4, 12, 7, 15}, [4]may{nought, nought, nought, nought}},
		{16, [4]uint8{20, 28, 23, 31}, [4]may{nought, nought, nought, nought}},
		{32, [4]uint8{36, 44, 39, 47}, [4]may{nought, nought, nought, nought}},
		{48, [4]uint8{52, 60, 55, 63}, [4]may{oneOf(0, 1), oneOf(0, 1), oneOf(0, 1), oneOf(0, 1)}},
		{64, [4]uint8{68, 76, 71, 79}, [4]may{nought, nought, nought, nought}},
		{80, [4]uint8{84, 92, 87, 95}, [4]may{nought, nought, nought, nought}},
		{96, [4]uint8{100, 108, 103, 111}, [4]may{nought, nought, nought, nought}},
		{112, [4]uint8{116, 124, 119, 127}, [4]may{nought, nought, nought, nought}},
		{144, [4]uint8{148, 156, 151, 159}, [4]may{oneOf(0, 1), oneOf(0, 1), oneOf(0, 1), oneOf(0, 1)}},
		{160, [4]uint8{164, 172, 167, 175}, [4]may{nought, nought, nought, nought}},
		{176, [4]uint8{180, 188, 183, 191}, [4]may{nought, oneOf(0, 8, 16), nought, oneOf(0, 8, 16, 32)}},
		{192, [4]uint8{196, 204, 199, 207}, [4]may{nought, nought, nought, nought}},
	} {
		all[a.ops[0]] = []shape{{api.What{Kind: 1, Op: a.op}, written, nought, a.off[0], anything}}
		all[a.ops[1]] = []shape{{api.What{Kind: 1, Op: a.op, Reg: true}, written, read, a.off[1], nought}}
		all[a.ops[2]] = []shape{{api.What{Kind: 1, Op: a.op, Wide: true}, written, nought, a.off[2], anything}}
		all[a.ops[3]] = []shape{{api.What{Kind: 1, Op: a.op, Wide: true, Reg: true}, written, read, a.off[3], nought}}
	}
	all[132] = []shape{{api.What{Kind: 1, Op: 128}, written, nought, nought, nought}}
	all[135] = []shape{{api.What{Kind: 1, Op: 128, Wide: true}, written, nought, nought, nought}}
}

// addSwaps adds what turns bytes about, or cuts them.
func addSwaps(all map[uint8][]shape) {
	for _, s := range []struct {
		op   uint8
		wide bool
	}{{212, false}, {220, true}, {215, true}} {
		all[s.op] = []shape{
			{api.What{Kind: 2, Wide: s.wide, Size: 2}, written, nought, nought, oneOf(16)},
			{api.What{Kind: 2, Wide: s.wide, Size: 4}, written, nought, nought, oneOf(32)},
			{api.What{Kind: 2, Wide: s.wide, Size: 8}, written, nought, nought, oneOf(64)},
		}
	}
}

// addMemory adds what reads memory, and what puts something there.
func addMemory(all map[uint8][]shape) {
	for op, size := range map[uint8]int{97: 4, 105: 2, 113: 1, 121: 8} {
		all[op] = []shape{{api.What{Kind: 5, Size: size}, written, read, anything, nought}}
	}
	for op, size := range map[uint8]int{129: 4, 137: 2, 145: 1} {
		all[op] = []shape{{api.What{Kind: 5, Size: size, Signed: true}, written, read, anything, nought}}
	}
	for op, size := range map[uint8]int{98: 4, 106: 2, 114: 1, 122: 8} {
		all[op] = []shape{{api.What{Kind: 6, Size: size}, read, nought, anything, anything}}
	}
	for op, size := range map[uint8]int{99: 4, 107: 2, 115: 1, 123: 8} {
		all[op] = []shape{{api.What{Kind: 7, Reg: true, Size: size}, read, read, anything, nought}}
	}
	for op, size := range map[uint8]int{195: 4, 219: 8} {
		for _, n := range []int{0, 64, 80, 160} {
			all[op] = append(all[op], shape{api.What{Kind: 8, Op: uint8(n), Reg: true, Size: size}, read, read, anything, oneOf(n)})
		}
	}
}

// addJumps adds what jumps: of each condition the Ops that are wide, wide with a register, narrow, narrow with a register.
func addJumps(all map[uint8][]shape) {
	all[5] = []shape{{api.What{Kind: 9}, nought, nought, anything, nought}}
	all[6] = []shape{{api.What{Kind: 9}, nought, nought, nought, anything}}
	for op, ops := range map[uint8][4]uint8{
		16: {21, 29, 22, 30}, 32: {37, 45, 38, 46}, 48: {53, 61, 54, 62}, 64: {69, 77, 70, 78},
		80: {85, 93, 86, 94}, 96: {101, 109, 102, 110}, 112: {117, 125, 118, 126}, 160: {165, 173, 166, 174},
		176: {181, 189, 182, 190}, 192: {197, 205, 198, 206}, 208: {213, 221, 214, 222},
	} {
		all[ops[0]] = []shape{{api.What{Kind: 10, Op: op, Wide: true}, read, nought, anything, anything}}
		all[ops[1]] = []shape{{api.What{Kind: 10, Op: op, Wide: true, Reg: true}, read, read, anything, nought}}
		all[ops[2]] = []shape{{api.What{Kind: 10, Op: op}, read, nought, anything, anything}}
		all[ops[3]] = []shape{{api.What{Kind: 10, Op: op, Reg: true}, read, read, anything, nought}}
	}
}

// wantWhat is what an instruction does, by its Op's shapes.
func wantWhat(x api.Insn) (api.What, bool) {
	for _, s := range shapes[x.Op] {
		if s.has(x) {
			return s.w, true
		}
	}
	return api.What{}, false
}

// checkWhat holds What of an instruction against its Op's shapes.
func checkWhat(t *testing.T, x api.Insn) {
	w, ok := code.What(x)
	if want, may := wantWhat(x); w != want || ok != may {
		t.Fatalf("What(%v) = %v, %t; want %v, %t", x, w, ok, want, may)
	}
}

// Numbers at which a field begins, or ends, to be what some Op says, and others.
var (
	someRegs = []uint8{0, 1, 2, 9, 10, 11, 15, 255}
	someOffs = []int16{math.MinInt16, -256, -1, 0, 1, 2, 7, 8, 9, 15, 16, 17, 24, 32, 33, 64, 256, math.MaxInt16}
	someImms = []int32{
		math.MinInt32, -65536, -96, -16, -1, 0, 1, 2, 8, 15, 16, 17, 24, 31, 32, 33, 48, 63, 64, 65, 79, 80, 96, 128, 160, 176,
		225, 240, 256, 256 + 16, 256 + 64, 65536, 65536 + 32, 1 << 24, math.MaxInt32 - 1, math.MaxInt32,
	}
)

// P7.1: all Ops, with what their fields may be, and what they may not.
func TestWhatOfAllOps(t *testing.T) {
	for op := range 256 {
		for _, d := range someRegs {
			for _, s := range someRegs {
				for _, off := range someOffs {
					for _, imm := range someImms {
						checkWhat(t, api.Insn{Op: uint8(op), Dst: d, Src: s, Off: off, Imm: imm})
					}
				}
			}
		}
	}
}

// P7.1: all registers, of all Ops.
func TestWhatOfAllRegisters(t *testing.T) {
	for op := range 256 {
		for reg := range 256 {
			for _, other := range []uint8{0, 1, 6, 10} {
				for _, imm := range []int32{0, 16} {
					checkWhat(t, api.Insn{Op: uint8(op), Dst: uint8(reg), Src: other, Imm: imm})
					checkWhat(t, api.Insn{Op: uint8(op), Dst: other, Src: uint8(reg), Imm: imm})
				}
			}
		}
	}
}

// P7.1: all Offs, of all Ops.
func TestWhatOfAllOffs(t *testing.T) {
	for op := range 256 {
		for off := math.MinInt16; off <= math.MaxInt16; off++ {
			checkWhat(t, api.Insn{Op: uint8(op), Off: int16(off)})
		}
	}
}

// P7.1: Imms one behind the other, of all Ops.
func TestWhatOfManyImms(t *testing.T) {
	for op := range 256 {
		for imm := -1 << 11; imm < 1<<11; imm++ {
			checkWhat(t, api.Insn{Op: uint8(op), Imm: int32(imm)})
			checkWhat(t, api.Insn{Op: uint8(op), Src: 1, Imm: int32(imm)})
		}
	}
}

// P7.1: the twelve kinds, worked out by hand.
func TestWhatOfEachKind(t *testing.T) {
	for _, c := range []struct {
		x api.Insn
		w api.What
	}{
		{api.Insn{Op: 183, Imm: 1}, api.What{Kind: api.Arith, Op: api.Mov, Wide: true}},
		{api.Insn{Op: 191, Dst: 9, Src: 10, Off: 32}, api.What{Kind: api.Arith, Op: api.Mov, Wide: true, Reg: true}},
		{api.Insn{Op: 188, Dst: 2, Src: 2, Off: 16}, api.What{Kind: api.Arith, Op: api.Mov, Reg: true}},
		{api.Insn{Op: 4, Dst: 3, Imm: -1}, api.What{Kind: api.Arith, Op: api.Add}},
		{api.Insn{Op: 63, Dst: 3, Src: 4, Off: 1}, api.What{Kind: api.Arith, Op: api.Div, Wide: true, Reg: true}},
		{api.Insn{Op: 148, Dst: 3, Off: 1, Imm: -7}, api.What{Kind: api.Arith, Op: api.Mod}},
		{api.Insn{Op: 135, Dst: 3}, api.What{Kind: api.Arith, Op: api.Neg, Wide: true}},
		{api.Insn{Op: 199, Dst: 3, Imm: 63}, api.What{Kind: api.Arith, Op: api.Arsh, Wide: true}},
		{api.Insn{Op: 212, Imm: 16}, api.What{Kind: api.Swaps, Size: 2}},
		{api.Insn{Op: 220, Imm: 32}, api.What{Kind: api.Swaps, Wide: true, Size: 4}},
		{api.Insn{Op: 215, Imm: 64}, api.What{Kind: api.Swaps, Wide: true, Size: 8}},
		{api.Insn{Op: 24, Dst: 5, Imm: -5}, api.What{Kind: api.Number, Wide: true}},
		{api.Insn{Op: 24, Dst: 5, Src: 1, Imm: math.MaxInt32}, api.What{Kind: api.Table, Wide: true}},
		{api.Insn{Op: 121, Src: 10, Off: -8}, api.What{Kind: api.Load, Size: 8}},
		{api.Insn{Op: 145, Dst: 9, Src: 1, Off: 63}, api.What{Kind: api.Load, Size: 1, Signed: true}},
		{api.Insn{Op: 98, Dst: 10, Off: -4, Imm: 1}, api.What{Kind: api.Store, Size: 4}},
		{api.Insn{Op: 107, Dst: 10, Src: 10, Off: -2}, api.What{Kind: api.Put, Reg: true, Size: 2}},
		{api.Insn{Op: 219, Dst: 10, Src: 1, Off: -8, Imm: 160}, api.What{Kind: api.Atom, Op: api.Xor, Reg: true, Size: 8}},
		{api.Insn{Op: 195, Dst: 1, Src: 10, Off: 8}, api.What{Kind: api.Atom, Op: api.Add, Reg: true, Size: 4}},
		{api.Insn{Op: 5, Off: -1}, api.What{Kind: api.Jump}},
		{api.Insn{Op: 6, Imm: -1}, api.What{Kind: api.Jump}},
		{api.Insn{Op: 85, Dst: 10, Off: 1, Imm: -9}, api.What{Kind: api.Branch, Op: api.Jne, Wide: true}},
		{api.Insn{Op: 222, Dst: 10, Src: 10, Off: 1}, api.What{Kind: api.Branch, Op: api.Jsle, Reg: true}},
		{api.Insn{Op: 133, Imm: -1}, api.What{Kind: api.Call}},
		{api.Insn{Op: 149}, api.What{Kind: api.Exit}},
	} {
		if w, ok := code.What(c.x); w != c.w || !ok {
			t.Errorf("What(%v) = %v, %t; want %v, true", c.x, w, ok, c.w)
		}
	}
}

// P7.1: instructions that RFC 9669 has, or nearly has, and that are none here.
func TestWhatOfNone(t *testing.T) {
	for _, x := range []api.Insn{
		{},
		{Op: 183, Dst: 10, Imm: 1},
		{Op: 183, Dst: 11},
		{Op: 183, Off: 8},
		{Op: 183, Src: 1},
		{Op: 191, Src: 1, Imm: 1},
		{Op: 191, Src: 11},
		{Op: 188, Src: 1, Off: 32},
		{Op: 7, Off: 1},
		{Op: 55, Off: 2},
		{Op: 151, Off: -1},
		{Op: 143, Src: 1},
		{Op: 135, Imm: 1},
		{Op: 215, Imm: 8},
		{Op: 223, Imm: 16},
		{Op: 212, Dst: 10, Imm: 16},
		{Op: 24, Dst: 10},
		{Op: 24, Src: 1, Imm: -1},
		{Op: 24, Src: 2},
		{Op: 24, Off: 1},
		{Op: 153},
		{Op: 97, Dst: 10},
		{Op: 97, Imm: 1},
		{Op: 98, Src: 1},
		{Op: 98, Dst: 11},
		{Op: 123, Imm: 1},
		{Op: 195, Imm: 1},
		{Op: 219, Imm: 241},
		{Op: 203},
		{Op: 13},
		{Op: 5, Imm: 1},
		{Op: 6, Off: 1},
		{Op: 5, Dst: 1},
		{Op: 21, Src: 1},
		{Op: 29, Imm: 1},
		{Op: 133, Src: 1},
		{Op: 134},
		{Op: 149, Imm: 1},
		{Op: 149, Dst: 1},
		{Op: 150},
		{Op: 48},
		{Op: 255, Dst: 255, Src: 255, Off: -1, Imm: -1},
	} {
		if w, ok := code.What(x); w != (api.What{}) || ok {
			t.Errorf("What(%v) = %v, %t; want zero, false", x, w, ok)
		}
	}
}
