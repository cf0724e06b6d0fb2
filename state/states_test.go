package state_test

import (
	"math"
	"math/big"
	"math/rand/v2"

	"hackle/api"
	"hackle/fact"
	"hackle/val"
)

// What the chapter counts, by its own numbers.
const (
	regs  = 11
	slots = 64
	bytes = 512
	far   = 1048576 // layer 12's 2^20
)

// none, num, ctx, stack, word, in, maybe are Vals of the kinds, right or not.
func none() api.Val          { return api.Val{} }
func num(f api.Fact) api.Val { return api.Val{Kind: 1, N: f} }
func ctx(off int) api.Val    { return api.Val{Kind: 2, Off: off} }
func stack(off int) api.Val  { return api.Val{Kind: 3, Off: off} }
func word(i int) api.Val     { return api.Val{Kind: 4, I: i} }
func in(i, off int) api.Val  { return api.Val{Kind: 5, I: i, Off: off} }
func maybe(i int) api.Val    { return api.Val{Kind: 6, I: i} }

// of is a number that is known; anything is one of which nothing is known.
func of(n uint64) api.Val { return num(fact.Of(n)) }
func anything() api.Val   { return num(fact.Any()) }

// upTo is a number from 0 to 2^bits - 1, written out.
func upTo(bits int) api.Val {
	high := uint64(math.MaxUint64)
	if bits < 64 {
		high = 1<<bits - 1
	}
	return num(api.Fact{Bits: api.Tnum{Mask: high}, Range: api.Span{High: high}})
}

// rightVals are Vals of each kind that may be, of several of each.
func rightVals() []api.Val {
	return []api.Val{
		none(), of(0), of(7), of(255), of(math.MaxUint64), anything(), upTo(3), upTo(8), upTo(32),
		num(api.Fact{Bits: api.Tnum{Value: 4, Mask: 2}, Range: api.Span{Low: 4, High: 6}}),
		ctx(0), ctx(8), ctx(-far), stack(0), stack(512), stack(-8), stack(far),
		word(0), word(7), in(0, 0), in(0, 8), in(7, -8), maybe(0), maybe(7),
	}
}

// wrongVals are Vals of each kind that may not be, and of kinds that are none.
func wrongVals() []api.Val {
	return []api.Val{
		{I: 1}, {Off: 1}, {N: fact.Of(1)}, {Kind: 1, I: 1}, {Kind: 1, Off: -1}, {Kind: 7}, {Kind: 255}, {Kind: 129},
		num(api.Fact{Bits: api.Tnum{Value: 1, Mask: 1}, Range: api.Span{High: 1}}), num(api.Fact{Range: api.Span{High: math.MaxUint64}}),
		num(api.Fact{Bits: api.Tnum{Mask: 7}, Range: api.Span{High: math.MaxUint64}}), num(api.Fact{Bits: api.Tnum{Value: 4}}),
		ctx(far + 1), {Kind: 2, I: 1}, stack(-far - 1), {Kind: 3, Off: 8, N: fact.Of(8)},
		word(8), word(-1), {Kind: 4, Off: 1}, in(8, 0), in(0, far+1), maybe(-1), {Kind: 6, Off: 1},
	}
}

// knownVals are those of rightVals of which something is known.
func knownVals() []api.Val { return rightVals()[1:] }

// reg is s with v in a register, slot is s with what is known of eight bytes, right or not.
func reg(s api.State, i int, v api.Val) api.State {
	s.Regs[i] = v
	return s
}

func slot(s api.State, i int, v api.Val, put uint8) api.State {
	s.Slots[i] = api.Slot{V: v, Put: put}
	return s
}

// parted is a state of whose slots each has other bytes that were put, and each fifth one a V.
func parted() api.State {
	s := api.State{}
	for i := range slots {
		s.Slots[i].Put = uint8(i * 37)
		if i%5 == 4 {
			s.Slots[i] = api.Slot{V: knownVals()[i%len(knownVals())], Put: 255}
		}
	}
	for i := range regs {
		s.Regs[i] = rightVals()[2*i]
	}
	return s
}

// filled is a state of which all registers and all slots are v.
func filled(v api.Val, put uint8) api.State {
	s := api.State{}
	for i := range regs {
		s.Regs[i] = v
	}
	for i := range slots {
		s.Slots[i] = api.Slot{V: v, Put: put}
	}
	return s
}

// first is the state ahead of a program, written out.
func first() api.State { return reg(reg(api.State{}, 1, ctx(0)), 10, stack(512)) }

// rightStates are states that may be.
func rightStates() []api.State {
	return []api.State{
		{}, first(), parted(), filled(none(), 255), filled(stack(504), 255), filled(anything(), 255), filled(of(3), 255), filled(none(), 0x81),
		slot(first(), 63, in(1, 8), 255), slot(first(), 0, maybe(2), 255), reg(first(), 0, of(9)),
	}
}

// wrongStates are states that may not be, because of one register or one slot.
func wrongStates() []api.State {
	l := []api.State{}
	for _, s := range []api.State{first(), filled(none(), 255), parted()} {
		for i, v := range wrongVals() {
			l = append(l, reg(s, i%regs, v), slot(s, i%slots, v, 255), slot(s, slots-1-i%slots, v, 0))
		}
		for i, v := range knownVals() {
			l = append(l, slot(s, (i*7)%slots, v, uint8(i)), slot(s, (i*11)%slots, v, 255&^(1<<(i%8))))
		}
		l = append(l, slot(s, 0, stack(0), 0), slot(s, 63, of(1), 127), slot(s, 63, anything(), 254), reg(s, 0, word(8)), reg(s, 10, maybe(8)))
	}
	return l
}

// mayBe tells by the chapter's words whether a state is right.
func mayBe(s api.State) bool {
	wrong := 0
	for i := range regs {
		if !val.Right(s.Regs[i]) {
			wrong++
		}
	}
	for i := range slots {
		if !val.Right(s.Slots[i].V) || s.Slots[i].V.Kind != 0 && s.Slots[i].Put != 255 {
			wrong++
		}
	}
	return wrong == 0
}

// above tells whether a and b together are above n, whatever numbers they are.
func above(a, b, n int) bool {
	sum := new(big.Int).Add(big.NewInt(int64(a)), big.NewInt(int64(b)))
	return sum.Cmp(big.NewInt(int64(n))) > 0
}

// refused tells by the chapter's words why so many bytes are not put or got at once from off on.
func refused(off, size int) api.Errno {
	if size != 1 && size != 2 && size != 4 && size != 8 {
		return 1
	}
	if off < 0 || above(off, size, bytes) {
		return 80
	}
	if off%size != 0 {
		return 130
	}
	return 0
}

// wasPut tells whether something was put to a byte of the stack.
func wasPut(s api.State, at int) bool { return s.Slots[at/8].Put>>(at%8)&1 == 1 }

// putTo is Put, by the chapter's words, bit by bit.
func putTo(s api.State, off, size int, v api.Val) (api.State, api.Errno) {
	e := refused(off, size)
	if e == 1 || !mayBe(s) || v.Kind == 0 || !val.Right(v) || size < 8 && v.Kind != 1 {
		return api.State{}, 1
	}
	if e != 0 {
		return api.State{}, e
	}
	if size == 8 {
		return slot(s, off/8, v, 255), 0
	}
	put := s.Slots[off/8].Put
	for at := off; at < off+size; at++ {
		put |= []uint8{1, 2, 4, 8, 16, 32, 64, 128}[at%8]
	}
	return slot(s, off/8, none(), put), 0
}

// gotFrom is Get, by the chapter's words, byte by byte.
func gotFrom(s api.State, off, size int) (api.Val, api.Errno) {
	e := refused(off, size)
	if e == 1 || !mayBe(s) {
		return none(), 1
	}
	if e != 0 {
		return none(), e
	}
	for at := off; at < off+size; at++ {
		if !wasPut(s, at) {
			return none(), 81
		}
	}
	if size == 8 && s.Slots[off/8].V.Kind != 0 {
		return s.Slots[off/8].V, 0
	}
	return upTo(8 * size), 0
}

// isFull is Full, by the chapter's words, byte by byte.
func isFull(s api.State, off, size int) bool {
	if !mayBe(s) || off < 0 || size < 0 || above(off, size, bytes) {
		return false
	}
	for at := off; at < off+size; at++ {
		if !wasPut(s, at) {
			return false
		}
	}
	return true
}

// isWithin is Within, by the chapter's words.
func isWithin(a, b api.State) bool {
	if !mayBe(a) || !mayBe(b) {
		return false
	}
	for i := range regs {
		if !val.Within(a.Regs[i], b.Regs[i]) {
			return false
		}
	}
	for i := range slots {
		x, y := a.Slots[i], b.Slots[i]
		for bit := range 8 {
			if y.V.Kind == 0 && y.Put>>bit&1 == 1 && x.Put>>bit&1 == 0 {
				return false
			}
		}
		if y.V.Kind != 0 && (x.V.Kind == 0 || !val.Within(x.V, y.V)) {
			return false
		}
	}
	return true
}

// actual is registers and a stack as they are: numbers, bytes, and which of these are set.
type actual struct {
	reg    [regs]uint64
	isSet  [regs]bool
	stack  [bytes]byte
	wasPut [bytes]bool
}

// begun is a beginning by layer 11: registers 1 and 10 tell where a program's bytes are, and where its stack ends.
func begun() *actual {
	r := &actual{}
	r.reg[1], r.isSet[1] = 1<<32, true
	r.reg[10], r.isSet[10] = 2<<32+512, true
	return r
}

// load is so many bytes of the stack as a number, the lowest one first; false: to one of them nothing was put.
func (r *actual) load(off, size int) (uint64, bool) {
	n, all := uint64(0), true
	for i := range size {
		n |= uint64(r.stack[off+i]) << (8 * i)
		all = all && r.wasPut[off+i]
	}
	return n, all
}

// store puts the lowest bytes of a number to the stack.
func (r *actual) store(off, size int, n uint64) {
	for i := range size {
		r.stack[off+i], r.wasPut[off+i] = byte(n>>(8*i)), true
	}
}

// mayBeOf tells whether it may be s, by what s tells of each register, each byte, and what was put whole.
func (r *actual) mayBeOf(s api.State) bool {
	for i, v := range s.Regs {
		if !val.Is(v, r.reg[i], r.isSet[i]) {
			return false
		}
	}
	for at := range bytes {
		if wasPut(s, at) && !r.wasPut[at] {
			return false
		}
	}
	for i, slot := range s.Slots {
		n, all := r.load(8*i, 8)
		if slot.V.Kind != 0 && !(all && val.Is(slot.V, n, true)) {
			return false
		}
	}
	return true
}

// drawn is a Val of which something is known, drawn, and a number that it may be.
func drawn(r *rand.Rand) (api.Val, uint64) {
	off, i := r.IntN(1025)-256, r.IntN(8)
	at := func(area, off int) uint64 { return uint64(int64(area)*4294967296 + int64(off)) }
	inMap := 4096 + 1024*i + r.IntN(1024)
	switch r.IntN(9) {
	case 0:
		return ctx(off), at(1, off)
	case 1:
		return stack(off), at(2, off)
	case 2:
		return word(i), at(3, i)
	case 3:
		return in(i, off), at(inMap, off)
	case 4:
		return maybe(i), []uint64{0, at(inMap, 0)}[r.IntN(2)]
	}
	return drawnNum(r)
}

// drawnNum is a number of which something drawn is known, and one that it may be.
func drawnNum(r *rand.Rand) (api.Val, uint64) {
	n := r.Uint64() >> r.IntN(64)
	low, high := n-min(n, r.Uint64()>>r.IntN(64)), n+min(math.MaxUint64-n, r.Uint64()>>r.IntN(64))
	mask := r.Uint64() & r.Uint64() >> r.IntN(64)
	f, ok := fact.Settle(api.Fact{Bits: api.Tnum{Value: n &^ mask, Mask: mask}, Range: api.Span{Low: low, High: high}})
	if !ok {
		panic("n is so")
	}
	return num(f), n
}
