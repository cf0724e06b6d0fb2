package val_test

import (
	"math"
	"math/rand/v2"
	"slices"

	"hackle/api"
	"hackle/fact"
)

// What the chapter counts, by its own numbers.
const (
	aNone  = 0
	aNum   = 1
	aCtx   = 2
	aStack = 3
	aWord  = 4
	anIn   = 5
	aMaybe = 6

	far   = 1048576 // 2^20
	maps  = 8
	slots = 1024
)

// at is where a byte of an area is, written out once more: 2^32 times area, and off.
func at(area, off int) uint64 { return uint64(int64(area)*4294967296 + int64(off)) }

// inArea is the area of a map's value, written out once more.
func inArea(i, slot int) int { return 4096 + 1024*i + slot }

// none, num, ctx, stack, word, in, maybe are Vals of the kinds, right or not.
func none() api.Val          { return api.Val{} }
func num(f api.Fact) api.Val { return api.Val{Kind: aNum, N: f} }
func ctx(off int) api.Val    { return api.Val{Kind: aCtx, Off: off} }
func stack(off int) api.Val  { return api.Val{Kind: aStack, Off: off} }
func word(i int) api.Val     { return api.Val{Kind: aWord, I: i} }
func in(i, off int) api.Val  { return api.Val{Kind: anIn, I: i, Off: off} }
func maybe(i int) api.Val    { return api.Val{Kind: aMaybe, I: i} }

// of is a number that is known.
func of(n uint64) api.Val { return num(fact.Of(n)) }

// fromTo is what is known of a number from low to high.
func fromTo(low, high uint64) api.Fact {
	f, ok := fact.Settle(api.Fact{Bits: api.Tnum{Mask: math.MaxUint64}, Range: api.Span{Low: low, High: high}})
	if !ok {
		panic("no number is so")
	}
	return f
}

// rightFacts are facts that may be.
func rightFacts() []api.Fact {
	l := []api.Fact{{}, fact.Any(), fromTo(0, 255), fromTo(3, 100), fromTo(4, 6), fromTo(1, math.MaxUint64), fromTo(1<<32, 1<<33)}
	for _, n := range []uint64{1, 4, 5, 6, 512, 1 << 32, at(1, 0), at(2, 504), at(3, 7), at(4096, 0), at(4096, 8), 1 << 63, math.MaxUint64} {
		l = append(l, fact.Of(n))
	}
	return l
}

// wrongFacts are facts that may not be: whose bits or whose range are not right, of which no number is so, or that are not settled.
func wrongFacts() []api.Fact {
	all, none := api.Span{High: math.MaxUint64}, api.Tnum{Mask: math.MaxUint64}
	return []api.Fact{
		{Bits: api.Tnum{Value: 1, Mask: 1}, Range: all},
		{Bits: api.Tnum{Value: 1, Mask: 1}, Range: api.Span{High: 1}},
		{Bits: none, Range: api.Span{Low: 1}},
		{Range: api.Span{Low: 5, High: 3}},
		{Bits: api.Tnum{Value: 4}, Range: api.Span{Low: 5, High: 9}},
		{Bits: api.Tnum{Value: 4}},
		{Bits: api.Tnum{Value: 4}, Range: all},
		{Bits: none},
		{Bits: none, Range: api.Span{High: 7}},
		{Bits: api.Tnum{Mask: 7}, Range: all},
		{Bits: api.Tnum{Mask: 7}, Range: api.Span{Low: 3, High: 100}},
		{Range: all},
	}
}

// facts are facts that may be, and such as may not.
func facts() []api.Fact { return append(rightFacts(), wrongFacts()...) }

// numbers are the numbers of maps, those near them, and some that are such only by their lowest bits.
func numbers() []int {
	return []int{math.MinInt, -1 << 32, -8, -1, 0, 1, 3, 6, 7, 8, 9, 16, 1 << 8, 1 << 32, 1<<32 + 1, math.MaxInt}
}

// offs are how far memory may be off, what is near that, and such as are so only by their lowest bits.
func offs() []int {
	return []int{math.MinInt, -1 << 32, -far * 2, -far - 1, -far, -far + 1, -512, -1, 0, 1, 8, 504, 512, far - 1, far, far + 1, far * 2, 1 << 31, 1 << 32, 1<<32 + 8, math.MaxInt}
}

// each does something with Vals of each kind, and of kinds that are none, with each field put together with each other one.
func each(do func(v api.Val)) {
	for _, kind := range []uint8{0, 1, 2, 3, 4, 5, 6, 7, 8, 9, 127, 128, 129, 130, 131, 132, 133, 134, 254, 255} {
		for _, f := range facts() {
			for _, i := range numbers() {
				for _, off := range offs() {
					do(api.Val{Kind: kind, N: f, I: i, Off: off})
				}
			}
		}
	}
}

// mayBe tells by the chapter's words whether a Val is right, field by field.
func mayBe(v api.Val) bool {
	if v.Kind > aMaybe {
		return false
	}
	hasI := v.Kind == aWord || v.Kind == anIn || v.Kind == aMaybe
	hasOff := v.Kind == aCtx || v.Kind == aStack || v.Kind == anIn
	if v.Kind == aNum && !settled(v.N) || v.Kind != aNum && v.N != (api.Fact{}) {
		return false
	}
	if hasI && (v.I < 0 || v.I > 7) || !hasI && v.I != 0 {
		return false
	}
	return hasOff && v.Off >= -far && v.Off <= far || !hasOff && v.Off == 0
}

// settled tells whether a fact is settled.
func settled(f api.Fact) bool {
	g, ok := fact.Settle(f)
	return ok && g == f
}

// rightVals are Vals of each kind that may be, with their edges.
func rightVals() []api.Val {
	l := []api.Val{none()}
	for _, f := range rightFacts() {
		l = append(l, num(f))
	}
	for _, off := range []int{-far, -far + 1, -513, -8, -1, 0, 1, 8, 504, 512, far - 1, far} {
		l = append(l, ctx(off), stack(off), in(0, off), in(1, off), in(7, off))
	}
	for i := range maps {
		l = append(l, word(i), in(i, 0), maybe(i))
	}
	return l
}

// wrongVals are Vals that may not be, of each kind, and of none.
func wrongVals() []api.Val {
	l := []api.Val{
		{I: 1}, {Off: 1}, {N: fact.Of(1)},
		{Kind: aNum, I: 1}, {Kind: aNum, Off: 8}, {Kind: aNum, N: fact.Of(4), I: 1}, {Kind: aNum, N: fact.Of(4), Off: -1},
		ctx(far + 1), ctx(-far - 1), {Kind: aCtx, I: 1}, {Kind: aCtx, N: fact.Any()},
		stack(far + 1), stack(-far - 1), {Kind: aStack, I: 1}, {Kind: aStack, Off: 8, N: fact.Of(8)},
		word(-1), word(8), {Kind: aWord, Off: 1}, {Kind: aWord, I: 1, N: fact.Of(1)},
		in(-1, 0), in(8, 0), in(1, far+1), in(1, -far-1), {Kind: anIn, N: fact.Of(1)},
		maybe(-1), maybe(8), {Kind: aMaybe, Off: 1}, {Kind: aMaybe, N: fact.Of(1)},
		{Kind: 7}, {Kind: 8, Off: 8}, {Kind: 255}, {Kind: 129}, {Kind: 131, Off: 8},
	}
	for _, f := range wrongFacts() {
		l = append(l, num(f))
	}
	return l
}

// registers are numbers that registers may have: where memory is, by all kinds of areas and offs, what is near that, and such as have one bit else.
func registers() []uint64 {
	l := []uint64{0, 1, 3, 4, 5, 6, 7, 8, 100, 101, 255, 256, 504, 512, math.MaxUint32, 1 << 63, math.MaxUint64}
	areas := []int{0, 1, 2, 3, 4, 4095, 4096, 4097, 8192, 1<<31 - 1, -1}
	for i := range maps {
		areas = append(areas, inArea(i, 0), inArea(i, 1), inArea(i, slots-1), inArea(i, slots))
	}
	for _, area := range areas {
		for _, off := range []int{-far - 1, -far, -far + 1, -513, -8, -1, 0, 1, 2, 7, 8, 9, 504, 512, far - 1, far, far + 1} {
			l = append(l, at(area, off))
		}
	}
	for _, n := range []uint64{at(1, 8), at(2, 512), at(3, 7), at(4096, 0), at(inArea(7, 1), 8)} {
		for bit := range 64 {
			l = append(l, n^1<<bit)
		}
	}
	slices.Sort(l)
	return slices.Compact(l)
}

// isOne tells by the chapter's words whether a register that is set to n may be v, which is right.
func isOne(v api.Val, n uint64) bool {
	inMap := func(off int) bool {
		for slot := range slots {
			if at(inArea(v.I, slot), off) == n {
				return true
			}
		}
		return false
	}
	switch v.Kind {
	case aNum:
		return n&^v.N.Bits.Mask == v.N.Bits.Value && n >= v.N.Range.Low && n <= v.N.Range.High
	case aCtx:
		return n == at(1, v.Off)
	case aStack:
		return n == at(2, v.Off)
	case aWord:
		return n == at(3, v.I)
	case anIn:
		return inMap(v.Off)
	case aMaybe:
		return n == 0 || inMap(0)
	}
	return true
}

// drawn is a Val that may be, drawn, and a number that a register of it may be set to.
func drawn(r *rand.Rand) (api.Val, uint64) {
	off, i := r.IntN(2*far+1)-far, r.IntN(maps)
	if r.IntN(2) == 0 {
		off = r.IntN(33) - 16
	}
	slot := r.IntN(slots)
	switch r.IntN(7) {
	case aNum:
		return drawnNum(r)
	case aCtx:
		return ctx(off), at(1, off)
	case aStack:
		return stack(off), at(2, off)
	case aWord:
		return word(i), at(3, i)
	case anIn:
		return in(i, off), at(inArea(i, slot), off)
	case aMaybe:
		return maybe(i), []uint64{0, at(inArea(i, slot), 0)}[r.IntN(2)]
	}
	return none(), r.Uint64()
}

// drawnNum is a number of which something drawn is known, and one that it may be.
func drawnNum(r *rand.Rand) (api.Val, uint64) {
	n := r.Uint64() >> r.IntN(64)
	low, high := n-min(n, r.Uint64()>>r.IntN(64)), n+min(math.MaxUint64-n, r.Uint64()>>r.IntN(64))
	mask := r.Uint64() & r.Uint64() >> r.IntN(64)
	f, ok := fact.Settle(api.Fact{Bits: api.Tnum{Value: n &^ mask, Mask: mask}, Range: api.Span{Low: low, High: high}})
	if !ok {
		panic("n is so")
	}
	return num(f), n
}
