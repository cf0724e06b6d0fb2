package walk_test

import (
	"math"
	"testing"

	"hackle/api"
	"hackle/fact"
)

// P14.2: a whole Mov takes over whatever is known of Src, and does not ask what Dst was.
func TestMovOfRegisters(t *testing.T) {
	for _, v := range all() {
		for _, was := range append(all(), none()) {
			s := reg(reg(busy(), 3, was), 4, v)
			becomes(t, s, ins(api.Insn{Op: 0xbf, Dst: 3, Src: 4}), v)
		}
		becomes(t, reg(busy(), 4, v), ins(api.Insn{Op: 0xbf, Dst: 4, Src: 4}), v)
		becomes(t, reg(first(), 0, v), ins(api.Insn{Op: 0xbf, Dst: 9, Src: 0}), v)
	}
	becomes(t, first(), ins(api.Insn{Op: 0xbf, Dst: 2, Src: 10}), stack(512))
	refuses(t, first(), ins(api.Insn{Op: 0xbf, Dst: 2, Src: 2}), errUnset)
}

// P14.2: Mov of the number of an instruction, of 64 bits; narrow it is cut.
func TestMovOfNumbers(t *testing.T) {
	for imm, want := range map[int32][2]uint64{0: {0, 0}, 7: {7, 7}, math.MaxInt32: {math.MaxInt32, math.MaxInt32}, -1: {math.MaxUint64, math.MaxUint32}, -2: {neg(2), 1<<32 - 2}, math.MinInt32: {neg(1 << 31), 1 << 31}} {
		for _, was := range append(all(), none()) {
			becomes(t, reg(busy(), 3, was), ins(api.Insn{Op: 0xb7, Dst: 3, Imm: imm}), of(want[0]))
			becomes(t, reg(busy(), 3, was), ins(api.Insn{Op: 0xb4, Dst: 3, Imm: imm}), of(want[1]))
		}
	}
}

// P14.2: a Mov that is narrow, or of a part, is of numbers alone: what is known of these is told.
func TestMovOfParts(t *testing.T) {
	for _, c := range []struct {
		op        uint8
		off       int16
		from, was api.Val
		to        api.Val
	}{
		{0xbc, 0, of(1<<40 + 5), none(), of(5)}, {0xbc, 0, anything(), stack(0), upTo(32)}, {0xbc, 0, upTo(8), none(), upTo(8)}, {0xbc, 0, fromTo(3, 100), word(1), fromTo(3, 100)},
		{0xbc, 8, of(0x1ff), none(), of(math.MaxUint32)}, {0xbc, 8, of(0x17f), none(), of(127)}, {0xbc, 16, of(0x18000), maybe(1), of(0xffff8000)}, {0xbc, 16, upTo(8), none(), upTo(32)},
		{0xbf, 8, of(0x1ff), none(), of(math.MaxUint64)}, {0xbf, 16, of(0x18000), none(), of(neg(0x8000))}, {0xbf, 32, of(1<<32 + 1<<31), none(), of(neg(1 << 31))}, {0xbf, 32, of(1<<32 + 5), none(), of(5)},
		{0xbf, 8, upTo(3), none(), anything()}, {0xbf, 32, fromTo(1, 2), ctx(0), anything()},
	} {
		becomes(t, reg(reg(busy(), 3, c.was), 4, c.from), ins(api.Insn{Op: c.op, Dst: 3, Src: 4, Off: c.off}), c.to)
		becomes(t, reg(busy(), 3, c.from), ins(api.Insn{Op: c.op, Dst: 3, Src: 3, Off: c.off}), c.to)
	}
	for _, v := range append(others(), stack(512)) {
		for _, x := range []api.Insn{{Op: 0xbc}, {Op: 0xbc, Off: 8}, {Op: 0xbc, Off: 16}, {Op: 0xbf, Off: 8}, {Op: 0xbf, Off: 16}, {Op: 0xbf, Off: 32}} {
			x.Dst, x.Src = 3, 4
			refuses(t, reg(busy(), 4, v), ins(x), errPointer)
		}
	}
}

// moving is where memory is, by how much it is moved, and where it is then.
type moving struct {
	from api.Val
	by   int64
	to   api.Val
}

// movings are some that may be.
func movings() []moving {
	return []moving{
		{ctx(0), 8, ctx(8)}, {ctx(0), 0, ctx(0)}, {ctx(0), -1, ctx(-1)}, {stack(512), -8, stack(504)}, {stack(512), 1, stack(513)}, {in(1, 8), -9, in(1, -1)}, {in(7, 0), 3, in(7, 3)},
		{ctx(0), far, ctx(far)}, {ctx(0), -far, ctx(-far)}, {stack(far - 1), 1, stack(far)}, {stack(1 - far), -1, stack(-far)}, {in(2, far), -far, in(2, 0)}, {in(2, -far), far, in(2, 0)},
	}
}

// P14.2: where memory is is moved by numbers that are known, of the instruction or of a register.
func TestMoves(t *testing.T) {
	for _, c := range movings() {
		s := reg(busy(), 3, c.from)
		becomes(t, s, ins(api.Insn{Op: 0x07, Dst: 3, Imm: int32(c.by)}), c.to)
		becomes(t, s, ins(api.Insn{Op: 0x17, Dst: 3, Imm: int32(-c.by)}), c.to)
		becomes(t, reg(s, 4, of(uint64(c.by))), ins(api.Insn{Op: 0x0f, Dst: 3, Src: 4}), c.to)
		becomes(t, reg(s, 4, of(uint64(-c.by))), ins(api.Insn{Op: 0x1f, Dst: 3, Src: 4}), c.to)
	}
	becomes(t, reg(first(), 2, stack(512)), ins(api.Insn{Op: 0x07, Dst: 2, Imm: -16}), stack(496))
}

// P14.2: where memory is is not moved too far, nor by what is not known.
func TestMovesNot(t *testing.T) {
	for _, c := range []moving{
		{ctx(0), far + 1, none()}, {ctx(0), -far - 1, none()}, {stack(far), 1, none()}, {stack(-far), -1, none()}, {in(2, 1), far, none()}, {in(2, -1), -far, none()},
		{ctx(-far), far + 1, none()}, {stack(0), math.MaxInt64, none()}, {stack(0), math.MinInt64, none()}, {in(0, 0), 1 << 32, none()}, {in(0, 0), -1 << 32, none()}, {ctx(0), math.MaxInt32, none()}, {ctx(0), math.MinInt32, none()},
	} {
		s := reg(busy(), 3, c.from)
		refuses(t, reg(s, 4, of(uint64(c.by))), ins(api.Insn{Op: 0x0f, Dst: 3, Src: 4}), errPointer)
		refuses(t, reg(s, 4, of(uint64(-c.by))), ins(api.Insn{Op: 0x1f, Dst: 3, Src: 4}), errPointer)
		if c.by == int64(int32(c.by)) && c.by != math.MinInt32 {
			refuses(t, s, ins(api.Insn{Op: 0x07, Dst: 3, Imm: int32(c.by)}), errPointer)
			refuses(t, s, ins(api.Insn{Op: 0x17, Dst: 3, Imm: int32(-c.by)}), errPointer)
		}
	}
	for _, at := range places() {
		for _, by := range append(others(), anything(), upTo(1), fromTo(3, 4), nothing()) {
			for _, op := range []uint8{0x0f, 0x1f} {
				refuses(t, reg(reg(busy(), 3, at), 4, by), ins(api.Insn{Op: op, Dst: 3, Src: 4}), errPointer)
			}
		}
		refuses(t, reg(busy(), 3, at), ins(api.Insn{Op: 0x0f, Dst: 3, Src: 3}), errPointer)
		refuses(t, reg(busy(), 3, at), ins(api.Insn{Op: 0x1f, Dst: 3, Src: 3}), errPointer)
	}
}

// arith is an arithmetic instruction's Op, and the Offs that it has.
type arith struct {
	op   uint8
	offs []int16
}

// ariths are all that have two numbers, but Mov.
func ariths() []arith {
	var l []arith
	for _, op := range []uint8{0x00, 0x10, 0x20, 0x40, 0x50, 0x60, 0x70, 0xa0, 0xc0} {
		l = append(l, arith{op, []int16{0}})
	}
	return append(l, arith{0x30, []int16{0, 1}}, arith{0x90, []int16{0, 1}})
}

// does is layer 6's Do.
func does(t *testing.T, op uint8, wide bool, off int16, a, b api.Val) api.Val {
	t.Helper()
	f, e := fact.Do(op, wide, off, a.N, b.N)
	if e != 0 {
		t.Fatalf("Do of %d: error %d", op, e)
	}
	return num(f)
}

// P14.2: all other arithmetic of numbers, narrow and wide, with a register, itself, or a number.
func TestArithOfNumbers(t *testing.T) {
	for _, c := range ariths() {
		for _, off := range c.offs {
			for class, wide := range map[uint8]bool{4: false, 7: true} {
				for _, a := range numbers() {
					for _, b := range numbers() {
						becomes(t, reg(reg(busy(), 3, a), 4, b), ins(api.Insn{Op: c.op | class | 8, Dst: 3, Src: 4, Off: off}), does(t, c.op, wide, off, a, b))
					}
					becomes(t, reg(busy(), 3, a), ins(api.Insn{Op: c.op | class | 8, Dst: 3, Src: 3, Off: off}), does(t, c.op, wide, off, a, a))
					for _, imm := range []int32{0, 1, -1, 12, 63, math.MaxInt32, math.MinInt32} {
						becomes(t, reg(busy(), 3, a), ins(api.Insn{Op: c.op | class, Dst: 3, Imm: imm, Off: off}), does(t, c.op, wide, off, a, of(uint64(imm))))
					}
				}
			}
		}
	}
}

// P14.2: arithmetic, written out.
func TestArithByHand(t *testing.T) {
	for _, c := range []struct {
		op   uint8
		off  int16
		a, b api.Val
		want api.Val
	}{
		{0x0f, 0, of(3), of(4), of(7)}, {0x1f, 0, of(3), of(4), of(math.MaxUint64)}, {0x1c, 0, of(3), of(4), of(math.MaxUint32)}, {0x0f, 0, fromTo(3, 100), of(1), fromTo(4, 101)}, {0x5f, 0, anything(), of(12), num(settled(0, 12, 0, 12))},
		{0x3f, 0, of(7), of(0), of(0)}, {0x9f, 0, of(7), of(0), of(7)}, {0x3f, 1, of(neg(7)), of(2), of(neg(3))}, {0x9f, 1, of(neg(7)), of(2), of(neg(1))}, {0x3f, 0, of(neg(7)), of(2), of(1<<63 - 4)},
		{0x6f, 0, upTo(8), of(8), num(settled(0, 0xff00, 0, 0xff00))}, {0x7f, 0, anything(), of(60), upTo(4)}, {0xcf, 0, of(1 << 63), of(65), of(3 << 62)}, {0x0c, 0, anything(), of(1), upTo(32)},
	} {
		becomes(t, reg(reg(busy(), 3, c.a), 4, c.b), ins(api.Insn{Op: c.op, Dst: 3, Src: 4, Off: c.off}), c.want)
	}
}

// P14.2: Neg of numbers.
func TestNeg(t *testing.T) {
	for _, v := range numbers() {
		becomes(t, reg(busy(), 3, v), ins(api.Insn{Op: 0x87, Dst: 3}), does(t, 0x80, true, 0, v, of(0)))
		becomes(t, reg(busy(), 3, v), ins(api.Insn{Op: 0x84, Dst: 3}), does(t, 0x80, false, 0, v, of(0)))
	}
	becomes(t, reg(busy(), 3, of(5)), ins(api.Insn{Op: 0x87, Dst: 3}), of(neg(5)))
	becomes(t, reg(busy(), 3, of(5)), ins(api.Insn{Op: 0x84, Dst: 3}), of(1<<32-5))
	becomes(t, reg(busy(), 3, upTo(8)), ins(api.Insn{Op: 0x87, Dst: 3}), anything())
	for _, v := range others() {
		refuses(t, reg(busy(), 3, v), ins(api.Insn{Op: 0x87, Dst: 3}), errPointer)
		refuses(t, reg(busy(), 3, v), ins(api.Insn{Op: 0x84, Dst: 3}), errPointer)
	}
}

// P14.2: ErrPointer of arithmetic with what is no number, but of a whole Add to, or Sub of, where memory is.
func TestArithOfOthers(t *testing.T) {
	for _, c := range ariths() {
		for _, off := range c.offs {
			for _, class := range []uint8{4, 7} {
				isMove := class == 7 && c.op < 0x20
				x := api.Insn{Op: c.op | class | 8, Dst: 3, Src: 4, Off: off}
				for _, v := range others() {
					refuses(t, reg(reg(busy(), 3, of(8)), 4, v), ins(x), errPointer)
					refuses(t, reg(reg(busy(), 3, anything()), 4, v), ins(x), errPointer)
				}
				for _, v := range words() {
					refuses(t, reg(reg(busy(), 3, v), 4, of(8)), ins(x), errPointer)
					refuses(t, reg(busy(), 3, v), ins(api.Insn{Op: c.op | class, Dst: 3, Off: off, Imm: 8}), errPointer)
				}
				for _, v := range places() {
					if !isMove {
						refuses(t, reg(reg(busy(), 3, v), 4, of(0)), ins(x), errPointer)
						refuses(t, reg(busy(), 3, v), ins(api.Insn{Op: c.op | class, Dst: 3, Off: off}), errPointer)
					}
				}
			}
		}
	}
}

// P14.2: bytes turned about, or cut: of numbers that are known, and that are not.
func TestSwaps(t *testing.T) {
	n := uint64(0x0102030405060708)
	for _, c := range []struct {
		op   uint8
		imm  int32
		want uint64
	}{
		{212, 16, 0x0708}, {212, 32, 0x05060708}, {212, 64, n}, {220, 16, 0x0807}, {220, 32, 0x08070605}, {220, 64, 0x0807060504030201}, {215, 16, 0x0807}, {215, 32, 0x08070605}, {215, 64, 0x0807060504030201},
	} {
		x := ins(api.Insn{Op: c.op, Dst: 3, Imm: c.imm})
		becomes(t, reg(busy(), 3, of(n)), x, of(c.want))
		becomes(t, reg(busy(), 3, of(0)), x, of(0))
		for _, v := range []api.Val{anything(), upTo(3), upTo(33), fromTo(3, 4), nothing(), num(settled(1, math.MaxUint64-1, 0, math.MaxUint64))} {
			becomes(t, reg(busy(), 3, v), x, upTo(int(c.imm)))
		}
		for _, v := range others() {
			refuses(t, reg(busy(), 3, v), x, errPointer)
		}
	}
}

// P14.2: a number of 64 bits, whatever was there; the next one is behind its other half.
func TestNumber(t *testing.T) {
	for _, was := range append(all(), none()) {
		becomes(t, reg(busy(), 3, was), ins(api.Insn{Op: 24, Dst: 3, Imm: 5}, api.Insn{Imm: 7}), of(7<<32+5))
		becomes(t, reg(busy(), 3, was), ins(api.Insn{Op: 24, Dst: 3, Imm: -1}, api.Insn{}), of(math.MaxUint32))
		becomes(t, reg(busy(), 3, was), ins(api.Insn{Op: 24, Dst: 3}, api.Insn{Imm: -1}), of(neg(1<<32)))
	}
}

// P14.2: a map's word, if there is such a map.
func TestTable(t *testing.T) {
	for _, was := range append(all(), none()) {
		s := reg(busy(), 3, was)
		becomes(t, s, ins(api.Insn{Op: 24, Dst: 3, Src: 1}, api.Insn{}), word(0))
		becomes(t, s, ins(api.Insn{Op: 24, Dst: 3, Src: 1, Imm: 1}, api.Insn{}), word(1))
		for _, imm := range []int32{2, 3, 7, 8, 256, 65536, math.MaxInt32} {
			refuses(t, s, ins(api.Insn{Op: 24, Dst: 3, Src: 1, Imm: imm}, api.Insn{}), errTold)
		}
	}
}
