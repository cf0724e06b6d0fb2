package alu

import (
	"math"
	"math/big"
	"testing"

	"hackle/api"
)

// The chapter's numbers of what arithmetic does, written out here once more.
const (
	add  = 0
	sub  = 16
	mul  = 32
	div  = 48
	or   = 64
	and  = 80
	lsh  = 96
	rsh  = 112
	neg  = 128
	mod  = 144
	xor  = 160
	mov  = 176
	arsh = 192
)

var ops = []uint8{add, sub, mul, div, or, and, lsh, rsh, neg, mod, xor, mov, arsh}

// edges are numbers at which some kind of number ends, or begins, and some within.
var edges = []uint64{
	0, 1, 2, 3, 7, 8, 10, 31, 32, 33, 63, 64, 65, 127, 128, 129, 255, 256,
	1<<15 - 1, 1 << 15, 1<<15 + 1, 1<<16 - 1, 1 << 16,
	1<<31 - 1, 1 << 31, 1<<31 + 1, 1<<32 - 7, 1<<32 - 2, 1<<32 - 1, 1 << 32, 1<<32 + 1, 1<<32 + 7, 3 << 32, 1<<33 - 1,
	0x0123456789abcdef, 0xfedcba9876543210, 0x8000000080000000, 0x7fffffff7fffffff, 0xffffffff00000000, 0x00000001ffffffff,
	1<<63 - 1, 1 << 63, 1<<63 + 1, 1<<64 - 7, 1<<64 - 2, 1<<64 - 1,
}

// offs are the offs with which op is arithmetic, as the chapter tells them.
func offs(op uint8, wide bool) []int16 {
	switch {
	case op == div || op == mod:
		return []int16{0, 1}
	case op == mov && wide:
		return []int16{0, 8, 16, 32}
	case op == mov:
		return []int16{0, 8, 16}
	}
	return []int16{0}
}

// power is 2^n.
func power(n int) *big.Int { return new(big.Int).Lsh(big.NewInt(1), uint(n)) }

// lowest is n modulo 2^width, from 0 on.
func lowest(n *big.Int, width int) *big.Int { return new(big.Int).Mod(n, power(width)) }

// signed is n, of width bits, for itself or for itself less 2^width.
func signed(n *big.Int, width int) *big.Int {
	low := lowest(n, width)
	if low.Cmp(power(width-1)) >= 0 {
		low.Sub(low, power(width))
	}
	return low
}

func number(n uint64) *big.Int { return new(big.Int).SetUint64(n) }

// quotient is what x by y comes to, towards 0, and what is left.
func quotient(x, y *big.Int) (*big.Int, *big.Int) {
	if y.Sign() == 0 {
		return new(big.Int), x
	}
	return new(big.Int).QuoRem(x, y, new(big.Int))
}

// worked is what the chapter says of Do, worked out with numbers of any size.
func worked(op uint8, wide bool, off int16, a, b uint64) uint64 {
	w := 32
	if wide {
		w = 64
	}
	x, y, n := lowest(number(a), w), lowest(number(b), w), new(big.Int)
	places := uint(new(big.Int).Mod(y, big.NewInt(int64(w))).Uint64())
	switch op {
	case add:
		n.Add(x, y)
	case sub:
		n.Sub(x, y)
	case mul:
		n.Mul(x, y)
	case or:
		n.Or(x, y)
	case and:
		n.And(x, y)
	case xor:
		n.Xor(x, y)
	case lsh:
		n.Lsh(x, places)
	case rsh:
		n.Rsh(x, places)
	case arsh:
		n.Rsh(signed(x, w), places)
	case neg:
		n.Neg(x)
	case mov:
		n = y
		if off != 0 {
			n = signed(y, int(off))
		}
	default:
		if off == 1 {
			x, y = signed(x, w), signed(y, w)
		}
		whole, rest := quotient(x, y)
		n = whole
		if op == mod {
			n = rest
		}
	}
	return lowest(n, w).Uint64()
}

// P2.1: the lowest bits are a signed number.
func TestSignOfLowestBits(t *testing.T) {
	for _, c := range []struct {
		a     uint64
		width int
		want  uint64
	}{
		{0, 1, 0},
		{1, 1, math.MaxUint64},
		{2, 1, 0},
		{3, 2, math.MaxUint64},
		{127, 8, 127},
		{128, 8, 0xffffffffffffff80},
		{0x17f, 8, 127},
		{0x1ff, 8, math.MaxUint64},
		{0x7fff, 16, 0x7fff},
		{0x8000, 16, 0xffffffffffff8000},
		{0x7fffffff, 32, 0x7fffffff},
		{0x80000000, 32, 0xffffffff80000000},
		{0xffffffff00000005, 32, 5},
		{1 << 62, 63, 0xc000000000000000},
		{1 << 63, 63, 0},
		{1 << 63, 64, 1 << 63},
		{1<<63 - 1, 64, 1<<63 - 1},
	} {
		if n := Sign(c.a, c.width); n != c.want {
			t.Errorf("Sign(%#x, %d) = %#x; want %#x", c.a, c.width, n, c.want)
		}
	}
}

// P2.1: of each width from 1 to 64, at the edges of the numbers.
func TestSignOfAllWidths(t *testing.T) {
	for width := 1; width <= 64; width++ {
		for _, a := range append([]uint64{1 << (width - 1), 1<<(width-1) - 1}, edges...) {
			want := lowest(signed(number(a), width), 64).Uint64()
			if n := Sign(a, width); n != want {
				t.Errorf("Sign(%#x, %d) = %#x; want %#x", a, width, n, want)
			}
		}
	}
}

// P2.1: of a width that is none the number stays.
func TestSignLeavesOtherWidths(t *testing.T) {
	for _, width := range []int{0, -1, -8, -64, 65, 66, 72, 128, math.MinInt, math.MaxInt} {
		for _, a := range edges {
			if n := Sign(a, width); n != a {
				t.Errorf("Sign(%#x, %d) = %#x; want it as it is", a, width, n)
			}
		}
	}
}

// P2.1: the lowest bytes are turned about, or cut.
func TestSwapTurnsOrCuts(t *testing.T) {
	const a = 0x0123456789abcdef
	for _, c := range []struct {
		turn  bool
		width int
		a     uint64
		want  uint64
	}{
		{false, 16, a, 0xcdef},
		{false, 32, a, 0x89abcdef},
		{false, 64, a, a},
		{true, 16, a, 0xefcd},
		{true, 32, a, 0xefcdab89},
		{true, 64, a, 0xefcdab8967452301},
		{true, 16, 1, 0x100},
		{true, 32, 1, 0x1000000},
		{true, 64, 1, 1 << 56},
		{true, 16, 1 << 16, 0},
		{true, 32, 1 << 32, 0},
		{false, 16, 1 << 16, 0},
		{false, 32, 1 << 32, 0},
		{true, 16, 0xff00, 0xff},
		{true, 32, 0xff000000, 0xff},
		{true, 64, 0xff << 56, 0xff},
		{false, 16, math.MaxUint64, 0xffff},
		{true, 32, math.MaxUint64, 0xffffffff},
	} {
		if n, e := Swap(c.turn, c.width, c.a); n != c.want || e != api.OK {
			t.Errorf("Swap(%t, %d, %#x) = %#x, %d; want %#x, OK", c.turn, c.width, c.a, n, e, c.want)
		}
	}
}

// P2.1: turned twice, the lowest bytes are as they were.
func TestSwapTwiceIsACut(t *testing.T) {
	for _, width := range []int{16, 32, 64} {
		for _, a := range edges {
			once, _ := Swap(true, width, a)
			twice, _ := Swap(true, width, once)
			low, e := Swap(false, width, a)
			if twice != low || e != api.OK || low != lowest(number(a), width).Uint64() {
				t.Errorf("of %#x, %d bits: turned twice %#x, cut %#x, %d", a, width, twice, low, e)
			}
		}
	}
}

// P2.1: other widths are refused.
func TestSwapRefusesOtherWidths(t *testing.T) {
	widths := []int{math.MinInt, -1 << 32, 1 << 32, 1<<32 + 16, math.MaxInt}
	for width := -130; width <= 130; width++ {
		if width != 16 && width != 32 && width != 64 {
			widths = append(widths, width)
		}
	}
	for _, width := range widths {
		for _, turn := range []bool{false, true} {
			if n, e := Swap(turn, width, math.MaxUint64); n != 0 || e != api.ErrArg {
				t.Errorf("Swap(%t, %d, ..) = %#x, %d; want 0, ErrArg", turn, width, n, e)
			}
		}
	}
}

// P2.2: numbers worked out by hand from the chapter.
func TestDoByHand(t *testing.T) {
	const least64, least32, minus32 = 1 << 63, 1 << 31, 1<<32 - 1
	const minus64 = math.MaxUint64
	for _, c := range []struct {
		op   uint8
		wide bool
		off  int16
		a, b uint64
		want uint64
	}{
		{div, true, 0, 7, 0, 0},
		{mod, true, 0, 7, 0, 7},
		{sub, false, 0, 0, 1, 4294967295},
		{arsh, true, 0, 1 << 63, 65, 1<<63 + 1<<62},

		{add, true, 0, minus64, 2, 1},
		{add, false, 0, minus32, 2, 1},
		{add, false, 0, 5 << 32, 7, 7},
		{sub, true, 0, 0, 1, minus64},
		{mul, true, 0, 1 << 32, 1 << 32, 0},
		{mul, true, 0, 1<<32 - 1, 1<<32 + 1, minus64},
		{mul, false, 0, 1 << 16, 1 << 16, 0},
		{or, true, 0, 5 << 32, 3, 5<<32 + 3},
		{or, false, 0, 5 << 32, 3, 3},
		{and, true, 0, 12, 10, 8},
		{xor, true, 0, 12, 10, 6},
		{xor, false, 0, minus64, 0, minus32},

		{lsh, true, 0, 1, 63, least64},
		{lsh, true, 0, 1, 64, 1},
		{lsh, true, 0, 3, 63, least64},
		{lsh, false, 0, 1, 31, least32},
		{lsh, false, 0, 1, 32, 1},
		{lsh, false, 0, 3, 31, least32},
		{lsh, false, 0, 1, 1<<32 + 1, 2},
		{rsh, true, 0, least64, 63, 1},
		{rsh, true, 0, least64, 127, 1},
		{rsh, false, 0, 1 << 40, 8, 0},
		{rsh, false, 0, least32, 63, 1},
		{arsh, true, 0, least64, 63, minus64},
		{arsh, true, 0, 1 << 62, 62, 1},
		{arsh, false, 0, least32, 31, minus32},
		{arsh, false, 0, 1 << 30, 30, 1},
		{arsh, false, 0, least32, 33, 3 << 30},
		{arsh, false, 0, least64, 1, 0},

		{neg, true, 0, 1, 9, minus64},
		{neg, true, 0, least64, 9, least64},
		{neg, false, 0, 1, 9, minus32},
		{neg, false, 0, 1 << 32, 9, 0},

		{mov, true, 0, 9, minus64, minus64},
		{mov, false, 0, 9, minus64, minus32},
		{mov, true, 8, 9, 0x180, 0xffffffffffffff80},
		{mov, true, 16, 9, 0x18000, 0xffffffffffff8000},
		{mov, true, 32, 9, 0x180000000, 0xffffffff80000000},
		{mov, true, 32, 9, 0x17fffffff, 0x7fffffff},
		{mov, false, 8, 9, 0x180, 0xffffff80},
		{mov, false, 8, 9, 0x17f, 0x7f},
		{mov, false, 16, 9, 0x18000, 0xffff8000},

		{div, true, 0, 7, 2, 3},
		{mod, true, 0, 7, 2, 1},
		{div, true, 0, minus64 - 6, minus64, 0},
		{mod, true, 0, minus64 - 6, minus64, minus64 - 6},
		{div, false, 0, 7, 0, 0},
		{mod, false, 0, 7, 0, 7},
		{div, false, 0, 7, 1 << 32, 0},
		{mod, false, 0, 3<<32 + 7, 1 << 32, 7},
		{div, true, 1, 7, 0, 0},
		{mod, true, 1, minus64 - 6, 0, minus64 - 6},
		{div, false, 1, 7, 0, 0},
		{mod, false, 1, minus32 - 6, 0, minus32 - 6},
		{div, true, 1, minus64 - 6, 2, minus64 - 2},
		{mod, true, 1, minus64 - 6, 2, minus64},
		{div, true, 1, 7, minus64 - 1, minus64 - 2},
		{mod, true, 1, 7, minus64 - 1, 1},
		{div, true, 1, minus64 - 6, minus64 - 1, 3},
		{mod, true, 1, minus64 - 6, minus64 - 1, minus64},
		{div, false, 1, minus32 - 6, 2, minus32 - 2},
		{mod, false, 1, minus32 - 6, 2, minus32},
		{div, false, 1, 1<<32 + 7, minus32 - 1, minus32 - 2},
		{mod, false, 1, 1<<32 + 7, minus32 - 1, 1},
		{div, true, 1, least64, minus64, least64},
		{mod, true, 1, least64, minus64, 0},
		{div, false, 1, least32, minus32, least32},
		{mod, false, 1, least32, minus32, 0},
		{div, true, 1, least32, minus32, 0},
		{div, true, 0, least64, minus64, 0},
		{mod, true, 0, least64, minus64, least64},
	} {
		n, e := Do(c.op, c.wide, c.off, c.a, c.b)
		if n != c.want || e != api.OK {
			t.Errorf("Do(%d, %t, %d, %#x, %#x) = %#x, %d; want %#x, OK", c.op, c.wide, c.off, c.a, c.b, n, e, c.want)
		}
		if w := worked(c.op, c.wide, c.off, c.a, c.b); w != c.want {
			t.Errorf("worked(%d, %t, %d, %#x, %#x) = %#x; want %#x", c.op, c.wide, c.off, c.a, c.b, w, c.want)
		}
	}
}

// P2.2: all of arithmetic, at the edges of the numbers.
func TestDoAtAllEdges(t *testing.T) {
	for _, op := range ops {
		for _, wide := range []bool{false, true} {
			for _, off := range offs(op, wide) {
				for _, a := range edges {
					for _, b := range edges {
						want := worked(op, wide, off, a, b)
						if n, e := Do(op, wide, off, a, b); n != want || e != api.OK {
							t.Fatalf("Do(%d, %t, %d, %#x, %#x) = %#x, %d; want %#x, OK", op, wide, off, a, b, n, e, want)
						}
					}
				}
			}
		}
	}
}

// P2.2: all pairs of numbers near 0, on both sides of it.
func TestDoNearZero(t *testing.T) {
	for _, op := range ops {
		for _, wide := range []bool{false, true} {
			for _, off := range offs(op, wide) {
				for i := -70; i <= 70; i++ {
					for j := -70; j <= 70; j++ {
						a, b := uint64(i), uint64(j)
						want := worked(op, wide, off, a, b)
						if n, e := Do(op, wide, off, a, b); n != want || e != api.OK {
							t.Fatalf("Do(%d, %t, %d, %#x, %#x) = %#x, %d; want %#x, OK", op, wide, off, a, b, n, e, want)
						}
					}
				}
			}
		}
	}
}

// P2.2: of all ops and offs just those that the chapter names are arithmetic.
func TestDoRefusesOtherOpsAndOffs(t *testing.T) {
	for op := range 256 {
		for _, wide := range []bool{false, true} {
			fits := map[int16]bool{}
			for _, known := range ops {
				if int(known) == op {
					for _, off := range offs(known, wide) {
						fits[off] = true
					}
				}
			}
			for off := math.MinInt16; off <= math.MaxInt16; off++ {
				n, e := Do(uint8(op), wide, int16(off), 77, 3)
				if fits[int16(off)] && e != api.OK {
					t.Fatalf("Do(%d, %t, %d, ..) = %d; want OK", op, wide, off, e)
				}
				if !fits[int16(off)] && (n != 0 || e != api.ErrArg) {
					t.Fatalf("Do(%d, %t, %d, ..) = %d, %d; want 0, ErrArg", op, wide, off, n, e)
				}
			}
		}
	}
}

// P2.3: y times what x by y comes to, and what is left, are x.
func TestDivAndModGoTogether(t *testing.T) {
	for _, wide := range []bool{false, true} {
		for _, off := range []int16{0, 1} {
			for _, a := range edges {
				for _, b := range edges {
					n, e := Do(div, wide, off, a, b)
					rest, f := Do(mod, wide, off, a, b)
					product, _ := Do(mul, wide, 0, n, b)
					sum, _ := Do(add, wide, 0, product, rest)
					x, _ := Do(mov, wide, 0, 0, a)
					if e != api.OK || f != api.OK || sum != x {
						t.Errorf("of %#x by %#x, %t, %d: %#x and %#x, together %#x", a, b, wide, off, n, rest, sum)
					}
				}
			}
		}
	}
}

// P2.3: what is left is nearer to 0 than y, and, if it is signed, has x's sign.
func TestWhatIsLeftIsLess(t *testing.T) {
	for _, wide := range []bool{false, true} {
		w := 32
		if wide {
			w = 64
		}
		for _, a := range edges {
			for _, b := range edges {
				x, y := signed(number(a), w), signed(number(b), w)
				if y.Sign() == 0 {
					continue
				}
				n, _ := Do(mod, wide, 1, a, b)
				rest := signed(number(n), w)
				if rest.CmpAbs(y) >= 0 || rest.Sign() != 0 && rest.Sign() != x.Sign() {
					t.Errorf("%v by %v leaves %v", x, y, rest)
				}
				n, _ = Do(mod, wide, 0, a, b)
				if number(n).Cmp(lowest(number(b), w)) >= 0 {
					t.Errorf("%#x by %#x leaves %#x", a, b, n)
				}
			}
		}
	}
}

// P2.3: what is narrow is below 2^32, whatever stands above the lowest 32 bits.
func TestNarrowHangsOnLowestBitsAlone(t *testing.T) {
	for _, op := range ops {
		for _, off := range offs(op, false) {
			for _, a := range edges {
				for _, b := range edges {
					low, _ := Do(op, false, off, a&(1<<32-1), b&(1<<32-1))
					n, e := Do(op, false, off, a, b)
					turned, f := Do(op, false, off, a^0xffffffff00000000, b^0xabcdef0100000000)
					if n >= 1<<32 || n != low || n != turned || e != api.OK || f != api.OK {
						t.Fatalf("Do(%d, false, %d, %#x, %#x) = %#x; of the lowest bits %#x; of others above %#x", op, off, a, b, n, low, turned)
					}
				}
			}
		}
	}
}
