package walk_test

import (
	"math"

	"hackle/api"
	"hackle/fact"
)

// What the chapters count, by their own numbers.
const (
	regs  = 11
	slots = 64
	bytes = 512
	far   = 1048576 // layer 12's 2^20
)

// The errors, by their own numbers.
const (
	errArg     = 1
	errFault   = 80
	errBlank   = 81
	errFixed   = 82
	errUnset   = 110
	errHelper  = 112
	errTold    = 113
	errAlign   = 130
	errPointer = 140
)

// none, num, ctx, stack, word, in, maybe are Vals of the kinds, right or not.
func none() api.Val          { return api.Val{} }
func num(f api.Fact) api.Val { return api.Val{Kind: 1, N: f} }
func ctx(off int) api.Val    { return api.Val{Kind: 2, Off: off} }
func stack(off int) api.Val  { return api.Val{Kind: 3, Off: off} }
func word(i int) api.Val     { return api.Val{Kind: 4, I: i} }
func in(i, off int) api.Val  { return api.Val{Kind: 5, I: i, Off: off} }
func maybe(i int) api.Val    { return api.Val{Kind: 6, I: i} }

// of is a number that is known; anything is one of which nothing is known.
func of(n uint64) api.Val { return num(fact.Of(n)) }
func anything() api.Val   { return num(fact.Any()) }

// neg is n below 0.
func neg(n uint64) uint64 { return -n }

// settled is what is known of a number by its bits and its range.
func settled(value, mask, low, high uint64) api.Fact {
	f, ok := fact.Settle(api.Fact{Bits: api.Tnum{Value: value, Mask: mask}, Range: api.Span{Low: low, High: high}})
	if !ok {
		panic("no number is so")
	}
	return f
}

// fromTo is a number from low to high.
func fromTo(low, high uint64) api.Val { return num(settled(0, math.MaxUint64, low, high)) }

// upTo is a number of so many bits, written out.
func upTo(bits int) api.Val {
	high := uint64(math.MaxUint64) >> (64 - bits)
	return num(api.Fact{Bits: api.Tnum{Mask: high}, Range: api.Span{High: high}})
}

// nothing is a number that is right, but that no number is: its bits tell 1 or 5, its range 3 to 4.
func nothing() api.Val {
	return num(api.Fact{Bits: api.Tnum{Value: 1, Mask: 4}, Range: api.Span{Low: 3, High: 4}})
}

// numbers are numbers, known and not.
func numbers() []api.Val {
	return []api.Val{
		of(0), of(1), of(7), of(255), of(1 << 31), of(1 << 32), of(1 << 63), of(math.MaxUint64), of(math.MaxUint32), anything(), upTo(3), upTo(8), upTo(16), upTo(32), upTo(33),
		fromTo(3, 100), fromTo(5, math.MaxUint64), fromTo(1<<32, 1<<40), fromTo(4, 6), num(settled(4, 2, 4, 6)), num(settled(1, math.MaxUint64-1, 0, math.MaxUint64)), nothing(),
	}
}

// places are where memory is; words are neither that nor numbers.
func places() []api.Val {
	return []api.Val{ctx(0), ctx(8), ctx(-far), ctx(far), stack(0), stack(504), stack(-8), stack(far), in(0, 0), in(1, 8), in(7, -8), in(0, far)}
}

func words() []api.Val {
	return []api.Val{word(0), word(1), word(7), maybe(0), maybe(1), maybe(7)}
}

// others are those that are set, and no numbers.
func others() []api.Val { return append(places(), words()...) }

// all are those that are set.
func all() []api.Val { return append(others(), numbers()...) }

// reg is s with v in a register, slot is s with what is known of eight bytes, right or not.
func reg(s api.State, i int, v api.Val) api.State {
	s.Regs[i] = v
	return s
}

func slot(s api.State, i int, v api.Val, put uint8) api.State {
	s.Slots[i] = api.Slot{V: v, Put: put}
	return s
}

// first is the state ahead of a program, written out.
func first() api.State { return reg(reg(api.State{}, 1, ctx(0)), 10, stack(512)) }

// busy is a state of which all registers are set, each otherwise, and many slots.
func busy() api.State {
	s := first()
	for i, v := range []api.Val{of(7), ctx(0), stack(496), word(1), in(0, 8), maybe(1), fromTo(3, 100), anything(), of(1 << 40), fromTo(5, math.MaxUint64)} {
		s.Regs[i] = v
	}
	for i, v := range []api.Val{of(300), stack(504), ctx(0), in(1, 0), maybe(0), word(0), anything(), upTo(8), of(math.MaxUint64)} {
		s = slot(s, 63-i, v, 255)
	}
	s = slot(s, 54, none(), 255)
	s = slot(s, 53, none(), 0xf0)
	s = slot(s, 52, none(), 0x0f)
	return slot(s, 51, none(), 0x3e)
}

// given is what a program is given: 20 bytes, a numbered map, one with keys of 3 bytes.
func given() api.Given {
	return api.Given{Defs: []api.Def{{Key: 4, Val: 16, Max: 2}, {Hash: true, Key: 3, Val: 8, Max: 4}}, Ctx: 20}
}

// wrongVals are Vals of each kind that may not be, and of kinds that are none.
func wrongVals() []api.Val {
	return []api.Val{
		{I: 1}, {Off: 1}, {N: fact.Of(1)}, {Kind: 1, I: 1}, {Kind: 1, Off: -1}, {Kind: 7}, {Kind: 255},
		num(api.Fact{Bits: api.Tnum{Value: 1, Mask: 1}, Range: api.Span{High: 1}}), num(api.Fact{Range: api.Span{High: math.MaxUint64}}), num(api.Fact{Bits: api.Tnum{Mask: 7}, Range: api.Span{High: math.MaxUint64}}),
		ctx(far + 1), {Kind: 2, I: 1}, stack(-far - 1), {Kind: 3, Off: 8, N: fact.Of(8)}, word(8), word(-1), {Kind: 4, Off: 1}, in(8, 0), in(0, far+1), maybe(-1), {Kind: 6, Off: 1},
	}
}
