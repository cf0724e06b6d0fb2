package cond

import (
	"math/big"
	"slices"
	"testing"

	"hackle/api"
)

// The chapter's numbers of what conditions ask, written out here once more.
const (
	ja   = 0
	jeq  = 16
	jgt  = 32
	jge  = 48
	jset = 64
	jne  = 80
	jsgt = 96
	jsge = 112
	jlt  = 160
	jle  = 176
	jslt = 192
	jsle = 208
)

var ops = []uint8{ja, jeq, jgt, jge, jset, jne, jsgt, jsge, jlt, jle, jslt, jsle}

// opposites and mirrors are what the chapter says of Not and Turned.
var (
	opposites = map[uint8]uint8{
		jeq: jne, jne: jeq,
		jgt: jle, jle: jgt,
		jge: jlt, jlt: jge,
		jsgt: jsle, jsle: jsgt,
		jsge: jslt, jslt: jsge,
	}
	mirrors = map[uint8]uint8{
		jeq: jeq, jne: jne, jset: jset,
		jgt: jlt, jlt: jgt,
		jge: jle, jle: jge,
		jsgt: jslt, jslt: jsgt,
		jsge: jsle, jsle: jsge,
	}
)

// edges are numbers at which some kind of number ends, or begins, some within, and such as differ above the lowest 32 bits alone.
var edges = []uint64{
	0, 1, 2, 3, 5, 8, 31, 32, 255, 256,
	1<<31 - 1, 1 << 31, 1<<31 + 1, 1<<32 - 2, 1<<32 - 1, 1 << 32, 1<<32 + 1, 3 << 32, 1<<33 - 1,
	0x0123456789abcdef, 0xfedcba9876543210, 0x8000000080000000, 0x7fffffff7fffffff, 0x7fffffff80000000, 0x800000007fffffff,
	0xffffffff00000000, 0xffffffff00000001, 0xffffffff7fffffff, 0xffffffff80000000, 0xaaaaaaaa55555555, 0x5555555555555555,
	1<<63 - 1, 1 << 63, 1<<63 + 1, 1<<64 - 7, 1<<64 - 2, 1<<64 - 1,
}

// bitsOf is n's lowest bits, each by itself.
func bitsOf(n uint64, wide bool) []bool {
	all := make([]bool, 32)
	if wide {
		all = make([]bool, 64)
	}
	for i := range all {
		all[i] = n%2 == 1
		n /= 2
	}
	return all
}

// value is the number that bits stand for; if signed, the highest one counts below 0.
func value(all []bool, signed bool) *big.Int {
	n := new(big.Int)
	for i, one := range all {
		if !one {
			continue
		}
		place := new(big.Int).Lsh(big.NewInt(1), uint(i))
		if signed && i == len(all)-1 {
			place.Neg(place)
		}
		n.Add(n, place)
	}
	return n
}

// common tells whether two lists of bits have a 1 at one place.
func common(p, q []bool) bool {
	for i := range p {
		if p[i] && q[i] {
			return true
		}
	}
	return false
}

// worked is what the chapter says of Is, worked out with bits and numbers of any size.
func worked(op uint8, wide bool, a, b uint64) bool {
	p, q := bitsOf(a, wide), bitsOf(b, wide)
	order := value(p, false).Cmp(value(q, false))
	signed := value(p, true).Cmp(value(q, true))
	switch op {
	case jeq:
		return order == 0
	case jne:
		return order != 0
	case jgt:
		return order > 0
	case jge:
		return order >= 0
	case jlt:
		return order < 0
	case jle:
		return order <= 0
	case jsgt:
		return signed > 0
	case jsge:
		return signed >= 0
	case jslt:
		return signed < 0
	case jsle:
		return signed <= 0
	case jset:
		return common(p, q)
	}
	return op == ja
}

// ask is Is of a condition that there is.
func ask(t *testing.T, op uint8, wide bool, a, b uint64) bool {
	t.Helper()
	holds, e := Is(op, wide, a, b)
	if e != api.OK {
		t.Fatalf("Is(%d, %t, %#x, %#x) = %t, %d; want OK", op, wide, a, b, holds, e)
	}
	return holds
}

// eachPair calls f of all pairs of edges, narrow and wide.
func eachPair(f func(wide bool, a, b uint64)) {
	for _, wide := range []bool{false, true} {
		for _, a := range edges {
			for _, b := range edges {
				f(wide, a, b)
			}
		}
	}
}

// P3.1: what the chapter says, of numbers worked out by hand.
func TestIsOfSingleNumbers(t *testing.T) {
	const least64, least32, minus64, minus32 = 1 << 63, 1 << 31, 1<<64 - 1, 1<<32 - 1
	for _, c := range []struct {
		op   uint8
		wide bool
		a, b uint64
		want bool
	}{
		{jgt, true, least64, 1, true},
		{jsgt, true, least64, 1, false},
		{jgt, false, least32, 1, true},
		{jsgt, false, least32, 1, false},
		{jsgt, true, least32, 1, true},

		{ja, true, 1, 2, true},
		{ja, false, 0, 0, true},

		{jeq, true, 7, 7, true},
		{jeq, true, 7, 7 + 1<<32, false},
		{jeq, false, 7, 7 + 1<<32, true},
		{jeq, false, 7, 8, false},
		{jne, true, 7, 7, false},
		{jne, true, 7, 7 + 1<<32, true},
		{jne, false, 7, 7 + 1<<32, false},
		{jne, false, 7, 8, true},

		{jgt, true, 8, 7, true},
		{jgt, true, 7, 7, false},
		{jgt, true, 7, 8, false},
		{jge, true, 8, 7, true},
		{jge, true, 7, 7, true},
		{jge, true, 7, 8, false},
		{jlt, true, 8, 7, false},
		{jlt, true, 7, 7, false},
		{jlt, true, 7, 8, true},
		{jle, true, 8, 7, false},
		{jle, true, 7, 7, true},
		{jle, true, 7, 8, true},
		{jlt, true, 0, minus64, true},
		{jle, true, minus64, 0, false},
		{jge, false, 1 << 32, 1, false},
		{jge, true, 1 << 32, 1, true},
		{jle, false, 1 << 32, 0, true},
		{jle, true, 1 << 32, 0, false},
		{jgt, false, minus32, 1<<32 + 1, true},

		{jsgt, true, 0, minus64, true},
		{jsgt, true, minus64, minus64, false},
		{jsgt, true, minus64, minus64 - 1, true},
		{jsge, true, minus64, minus64, true},
		{jsge, true, minus64, 0, false},
		{jsge, true, 1<<63 - 1, least64, true},
		{jslt, true, minus64, 0, true},
		{jslt, true, least64, 1<<63 - 1, true},
		{jslt, true, 5, 5, false},
		{jsle, true, 5, 5, true},
		{jsle, true, minus64, 0, true},
		{jsle, true, 0, minus64, false},
		{jslt, false, minus32, 0, true},
		{jslt, true, minus32, 0, false},
		{jsle, false, least32, 1<<31 - 1, true},
		{jsle, true, least32, 1<<31 - 1, false},
		{jsge, false, least64, 0, true},
		{jsge, true, least64, 0, false},
		{jsgt, false, least64 + 1, minus32, true},

		{jset, true, 12, 10, true},
		{jset, true, 12, 3, false},
		{jset, true, 0, minus64, false},
		{jset, true, 0, 0, false},
		{jset, true, least64, minus64, true},
		{jset, false, least64, minus64, false},
		{jset, true, 1 << 32, 1 << 32, true},
		{jset, false, 1 << 32, 1 << 32, false},
		{jset, false, least32, minus64, true},
		{jset, true, least32, least64 + 1, false},
	} {
		if holds := ask(t, c.op, c.wide, c.a, c.b); holds != c.want {
			t.Errorf("Is(%d, %t, %#x, %#x) = %t; want %t", c.op, c.wide, c.a, c.b, holds, c.want)
		}
		if w := worked(c.op, c.wide, c.a, c.b); w != c.want {
			t.Errorf("worked(%d, %t, %#x, %#x) = %t; want %t", c.op, c.wide, c.a, c.b, w, c.want)
		}
	}
}

// P3.1: all conditions, at the edges of the numbers.
func TestIsAtAllEdges(t *testing.T) {
	eachPair(func(wide bool, a, b uint64) {
		for _, op := range ops {
			if holds := ask(t, op, wide, a, b); holds != worked(op, wide, a, b) {
				t.Errorf("Is(%d, %t, %#x, %#x) = %t", op, wide, a, b, holds)
			}
		}
	})
}

// P3.1: all pairs of numbers near 0, and near where signed numbers end, on both sides of it.
func TestIsNearTheEnds(t *testing.T) {
	for _, middle := range []uint64{0, 1 << 31, 1 << 63} {
		for i := range uint64(25) {
			for j := range uint64(25) {
				a, b := middle+i-12, middle+j-12
				for _, op := range ops {
					for _, wide := range []bool{false, true} {
						if holds := ask(t, op, wide, a, b); holds != worked(op, wide, a, b) {
							t.Errorf("Is(%d, %t, %#x, %#x) = %t", op, wide, a, b, holds)
						}
					}
				}
			}
		}
	}
}

// P3.1: Jset sees each bit, and no other one.
func TestJsetOfEachBit(t *testing.T) {
	for i := range 64 {
		for j := range 64 {
			a, b := uint64(1)<<i, uint64(1)<<j
			if ask(t, jset, true, a, b) != (i == j) {
				t.Errorf("Jset of the bits %d and %d, wide", i, j)
			}
			if ask(t, jset, false, a, b) != (i == j && i < 32) {
				t.Errorf("Jset of the bits %d and %d, narrow", i, j)
			}
		}
	}
}

// P3.1: narrow conditions hang on the lowest 32 bits alone.
func TestNarrowHangsOnLowestBitsAlone(t *testing.T) {
	eachPair(func(_ bool, a, b uint64) {
		for _, op := range ops {
			low := ask(t, op, false, a&(1<<32-1), b&(1<<32-1))
			for _, above := range []uint64{1 << 32, 1 << 63, 0xabcdef0100000000, 0xffffffff00000000} {
				if ask(t, op, false, a^above, b) != low || ask(t, op, false, a, b^above) != low {
					t.Fatalf("Is(%d, false, %#x, %#x) hangs on %#x above", op, a, b, above)
				}
			}
		}
	})
}

// P3.1: of all ops just those that the chapter names are conditions; of another one nothing is told.
func TestIsRefusesOtherOps(t *testing.T) {
	for op := range 256 {
		known := slices.Contains(ops, uint8(op))
		for _, wide := range []bool{false, true} {
			for _, a := range []uint64{0, 1, 7, 1<<64 - 1} {
				holds, e := Is(uint8(op), wide, a, 7)
				if known && e != api.OK {
					t.Errorf("Is(%d, %t, %#x, 7) = %t, %d; want OK", op, wide, a, holds, e)
				}
				if !known && (holds || e != api.ErrArg) {
					t.Errorf("Is(%d, %t, %#x, 7) = %t, %d; want false, ErrArg", op, wide, a, holds, e)
				}
			}
		}
	}
}

// holdPairs holds what Not or Turned answers, of all ops, against the pairs that the chapter names.
func holdPairs(t *testing.T, name string, call func(uint8) (uint8, bool), pairs map[uint8]uint8) {
	t.Helper()
	for op := range 256 {
		want, there := pairs[uint8(op)]
		if other, ok := call(uint8(op)); other != want || ok != there {
			t.Errorf("%s(%d) = %d, %t; want %d, %t", name, op, other, ok, want, there)
		}
	}
}

// P3.2: Not, of all ops.
func TestNotOfAllOps(t *testing.T) { holdPairs(t, "Not", Not, opposites) }

// P3.2: Turned, of all ops.
func TestTurnedOfAllOps(t *testing.T) { holdPairs(t, "Turned", Turned, mirrors) }

// P3.2: what Not answers holds just if the condition does not.
func TestNotHoldsJustIfOpDoesNot(t *testing.T) {
	eachPair(func(wide bool, a, b uint64) {
		for _, op := range ops {
			other, ok := Not(op)
			if ok && ask(t, other, wide, a, b) == ask(t, op, wide, a, b) {
				t.Errorf("%d and its Not %d are the same of %#x and %#x, %t", op, other, a, b, wide)
			}
		}
	})
}

// P3.2: what Turned answers holds of y and x just if the condition does of x and y.
func TestTurnedHoldsOfNumbersChangedAbout(t *testing.T) {
	eachPair(func(wide bool, a, b uint64) {
		for _, op := range ops {
			other, ok := Turned(op)
			if ok && ask(t, other, wide, b, a) != ask(t, op, wide, a, b) {
				t.Errorf("%d of %#x and %#x is not its Turned %d of them changed about, %t", op, a, b, other, wide)
			}
		}
	})
}

// holdOne tells whether just one of conditions holds of two numbers.
func holdOne(t *testing.T, wide bool, a, b uint64, conditions ...uint8) bool {
	t.Helper()
	n := 0
	for _, op := range conditions {
		if ask(t, op, wide, a, b) {
			n++
		}
	}
	return n == 1
}

// P3.3: of less, more and the same just one holds, signed or not; so does of each of them and what is left.
func TestJustOneOfLessMoreAndSame(t *testing.T) {
	eachPair(func(wide bool, a, b uint64) {
		for _, of := range [][]uint8{
			{jlt, jgt, jeq}, {jslt, jsgt, jeq},
			{jlt, jge}, {jgt, jle}, {jslt, jsge}, {jsgt, jsle}, {jeq, jne},
		} {
			if !holdOne(t, wide, a, b, of...) {
				t.Errorf("of %#x and %#x, %t, not just one of %v holds", a, b, wide, of)
			}
		}
	})
}
