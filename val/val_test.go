package val_test

import (
	"math"
	"math/rand/v2"
	"testing"

	"hackle/api"
	"hackle/fact"
	"hackle/val"
)

// is asks whether a register may be so.
func is(t *testing.T, v api.Val, n uint64, set, want bool) {
	t.Helper()
	if got := val.Is(v, n, set); got != want {
		t.Errorf("Is(%v, %#x, %t) = %t; want %t", v, n, set, got, want)
	}
}

// within asks whether one Val is within another one.
func within(t *testing.T, a, b api.Val, want bool) {
	t.Helper()
	if got := val.Within(a, b); got != want {
		t.Errorf("Within(%v, %v) = %t; want %t", a, b, got, want)
	}
}

// joins asks what may be one of both, both ways about.
func joins(t *testing.T, a, b, want api.Val) {
	t.Helper()
	if got := val.Join(a, b); got != want {
		t.Errorf("Join(%v, %v) = %v; want %v", a, b, got, want)
	}
	if got := val.Join(b, a); got != want {
		t.Errorf("Join(%v, %v) = %v; want %v", b, a, got, want)
	}
}

// moves asks for a move that may be.
func moves(t *testing.T, v api.Val, n uint64, want api.Val) {
	t.Helper()
	if got, ok := val.Move(v, n); got != want || !ok {
		t.Errorf("Move(%v, %#x) = %v, %t; want %v, true", v, n, got, ok, want)
	}
}

// stays asks for a move that may not be.
func stays(t *testing.T, v api.Val, n uint64) {
	t.Helper()
	if got, ok := val.Move(v, n); got != (api.Val{}) || ok {
		t.Errorf("Move(%v, %#x) = %v, %t; want zero, false", v, n, got, ok)
	}
}

// back is n bytes back, modulo 2^64.
func back(n uint64) uint64 { return -n }

// P12.2: the chapter's examples.
func TestExamples(t *testing.T) {
	moves(t, stack(512), back(8), stack(504))
	is(t, stack(504), 0x2000001f8, true, true)
	joins(t, of(4), of(6), api.Val{Kind: aNum, N: api.Fact{Bits: api.Tnum{Value: 4, Mask: 2}, Range: api.Span{Low: 4, High: 6}}})
}

// The chapter's words on kinds: their numbers.
func TestKinds(t *testing.T) {
	for i, kind := range []uint8{api.ValNone, api.ValNum, api.ValCtx, api.ValStack, api.ValWord, api.ValIn, api.ValMaybe} {
		if int(kind) != i {
			t.Errorf("kind %d is %d", i, kind)
		}
	}
}

// P12.1: Right, of Vals of all kinds written out, and of their edges.
func TestRight(t *testing.T) {
	for _, v := range rightVals() {
		if !val.Right(v) {
			t.Errorf("Right(%v) = false; want true", v)
		}
	}
	for _, v := range wrongVals() {
		if val.Right(v) {
			t.Errorf("Right(%v) = true; want false", v)
		}
	}
}

// P12.1: Right, of all fields put together, by the chapter's words.
func TestRightOfAll(t *testing.T) {
	count := map[bool]int{}
	each(func(v api.Val) {
		want := mayBe(v)
		count[want]++
		if got := val.Right(v); got != want {
			t.Errorf("Right(%v) = %t; want %t", v, got, want)
		}
	})
	if count[true] < 80 || count[false] < 80 {
		t.Errorf("asked of %d that are right and %d that are not", count[true], count[false])
	}
}

// P12.1: Right, of each kind that there may be, with nothing else: those from 0 to 6.
func TestRightOfKinds(t *testing.T) {
	for kind := range 256 {
		v := api.Val{Kind: uint8(kind)}
		if got := val.Right(v); got != (kind <= 6) {
			t.Errorf("Right(%v) = %t", v, got)
		}
	}
}

// P12.1: Num, of facts that are right and of others.
func TestNum(t *testing.T) {
	for _, f := range rightFacts() {
		if got := val.Num(f); got != num(f) || got.Kind != 1 {
			t.Errorf("Num(%v) = %v", f, got)
		}
	}
	for _, f := range wrongFacts() {
		if got := val.Num(f); got != none() {
			t.Errorf("Num(%v) = %v; want zero", f, got)
		}
	}
}

// P12.1: Pointer, of each kind, and of such as are not right.
func TestPointer(t *testing.T) {
	for _, v := range rightVals() {
		want := v.Kind == aCtx || v.Kind == aStack || v.Kind == anIn
		if got := val.Pointer(v); got != want {
			t.Errorf("Pointer(%v) = %t; want %t", v, got, want)
		}
	}
	each(func(v api.Val) {
		if !mayBe(v) && val.Pointer(v) {
			t.Errorf("Pointer(%v) = true, but it is not right", v)
		}
	})
}

// P12.2: Is, of a register that is set, and of one that isn't.
func TestIs(t *testing.T) {
	for _, c := range []struct {
		v         api.Val
		yes, nope []uint64
	}{
		{none(), []uint64{0, 1, 8, 0x100000000, math.MaxUint64}, nil},
		{of(0), []uint64{0}, []uint64{1, 1 << 63, math.MaxUint64}},
		{of(5), []uint64{5}, []uint64{0, 4, 6, 7, 5 + 1<<32}},
		{num(fact.Any()), []uint64{0, 1, 0x100000000, math.MaxUint64}, nil},
		{num(fromTo(3, 100)), []uint64{3, 4, 100}, []uint64{0, 2, 101, 127, math.MaxUint64}},
		{num(api.Fact{Bits: api.Tnum{Mask: 12}, Range: api.Span{High: 12}}), []uint64{0, 4, 8, 12}, []uint64{1, 2, 5, 11, 13, 16}},
		{ctx(0), []uint64{0x100000000}, []uint64{0, 1, 0x100000001, 0xffffffff, 0x200000000, 0x300000000}},
		{ctx(60), []uint64{0x10000003c}, []uint64{0x100000000, 60, 0x20000003c}},
		{ctx(-1), []uint64{0xffffffff}, []uint64{0x100000000, 0x1ffffffff, math.MaxUint64}},
		{ctx(-far), []uint64{0xfff00000}, []uint64{0x100100000}},
		{stack(0), []uint64{0x200000000}, []uint64{0, 0x100000000, 0x300000000}},
		{stack(512), []uint64{0x200000200}, []uint64{0x200000000, 0x2000001ff, 512}},
		{stack(-8), []uint64{0x1fffffff8}, []uint64{0x200000008}},
		{stack(far), []uint64{0x200100000}, []uint64{0x200000000}},
		{word(0), []uint64{0x300000000}, []uint64{0, 0x300000001, 0x200000000, 0x400000000}},
		{word(7), []uint64{0x300000007}, []uint64{7, 0x300000000, 0x300000006, 0x300000008}},
		{in(0, 0), []uint64{0x100000000000, 0x100100000000, 0x13ff00000000}, []uint64{0, 0x0fff00000000, 0x140000000000, 0x100000000001, 0x100000000008, 0x100000000}},
		{in(0, 8), []uint64{0x100000000008, 0x13ff00000008}, []uint64{0, 8, 0x100000000000, 0x140000000008, 0x0fff00000008}},
		{in(1, -8), []uint64{0x13fffffffff8, 0x17fefffffff8}, []uint64{0x140000000008, 0x13fefffffff8, 0x17fffffffff8}},
		{in(7, far), []uint64{0x2c0000100000, 0x2fff00100000}, []uint64{0, 0x2bff00100000, 0x300000100000, 0x2c0000000000}},
		{maybe(0), []uint64{0, 0x100000000000, 0x13ff00000000}, []uint64{1, 8, 0x100000000008, 0x0fff00000000, 0x140000000000}},
		{maybe(7), []uint64{0, 0x2c0000000000, 0x2fff00000000}, []uint64{7, 0x2bff00000000, 0x300000000000, 0x300000007}},
	} {
		for _, n := range c.yes {
			is(t, c.v, n, true, true)
			is(t, c.v, n, false, c.v == none())
		}
		for _, n := range c.nope {
			is(t, c.v, n, true, false)
			is(t, c.v, n, false, false)
		}
	}
}

// P12.2: Is, of each slot of each map, and of none behind or ahead of them.
func TestIsOfSlots(t *testing.T) {
	for i := range maps {
		for slot := -slots; slot < 2*slots; slot++ {
			there := slot >= 0 && slot < slots
			is(t, in(i, 16), at(inArea(i, slot), 16), true, there)
			is(t, maybe(i), at(inArea(i, slot), 0), true, there)
			is(t, in(i, 16), at(inArea(i, slot), 16), false, false)
			is(t, maybe(i), at(inArea(i, slot), 16), true, false)
		}
	}
}

// P12.2: Is, of all kinds of Vals that are right and of all kinds of numbers, by the chapter's words; of others false.
func TestIsOfAll(t *testing.T) {
	for _, n := range registers() {
		for _, v := range rightVals() {
			is(t, v, n, true, isOne(v, n))
			is(t, v, n, false, v.Kind == aNone)
		}
		for _, v := range wrongVals() {
			is(t, v, n, true, false)
			is(t, v, n, false, false)
		}
	}
}

// P12.2: Is, of Vals that are not right because of one field, and of a number that they would be without it.
func TestIsOfWrong(t *testing.T) {
	for _, c := range []struct {
		v api.Val
		n uint64
	}{
		{ctx(far + 1), at(1, far+1)},
		{ctx(-far - 1), at(1, -far-1)},
		{stack(far + 1), at(2, far+1)},
		{word(8), at(3, 8)},
		{word(-1), at(3, -1)},
		{in(8, 0), at(inArea(8, 0), 0)},
		{in(-1, 0), at(inArea(-1, 0), 0)},
		{in(0, far+1), at(inArea(0, 0), far+1)},
		{maybe(8), at(inArea(8, 0), 0)},
		{maybe(8), 0},
		{num(api.Fact{Bits: api.Tnum{Mask: 7}, Range: api.Span{High: math.MaxUint64}}), 5},
		{api.Val{I: 1}, 0},
		{api.Val{Kind: 7}, 0},
	} {
		is(t, c.v, c.n, true, false)
		is(t, c.v, c.n, false, false)
	}
}

// P12.2: Within, written out.
func TestWithin(t *testing.T) {
	for _, v := range rightVals() {
		within(t, v, v, true)
		within(t, v, none(), true)
		within(t, none(), v, v == none())
	}
	within(t, of(4), num(fromTo(4, 6)), true)
	within(t, num(fromTo(4, 6)), of(4), false)
	within(t, num(fromTo(4, 6)), num(fromTo(3, 100)), true)
	within(t, num(fromTo(3, 100)), num(fromTo(4, 6)), false)
	within(t, num(fromTo(3, 100)), num(fact.Any()), true)
	within(t, of(7), num(fromTo(4, 6)), false)
	within(t, of(4), of(6), false)
	within(t, ctx(8), ctx(0), false)
	within(t, ctx(8), stack(8), false)
	within(t, stack(8), stack(9), false)
	within(t, word(1), word(2), false)
	within(t, in(1, 0), in(2, 0), false)
	within(t, in(1, 0), in(1, 8), false)
	within(t, maybe(1), maybe(2), false)
	// Nothing else is within another one, though what may be it may be the other one, too.
	within(t, in(1, 0), maybe(1), false)
	within(t, maybe(1), in(1, 0), false)
	within(t, of(0), maybe(1), false)
	within(t, ctx(0), num(fact.Any()), false)
	within(t, of(at(1, 0)), ctx(0), false)
}

// P12.2: Within, of each Val and each other one, by the chapter's words; of such as are not right false.
func TestWithinOfAll(t *testing.T) {
	for _, a := range rightVals() {
		for _, b := range rightVals() {
			want := b == none() || a == b || a.Kind == aNum && b.Kind == aNum && fact.Within(a.N, b.N)
			within(t, a, b, want)
		}
	}
	for _, w := range wrongVals() {
		within(t, w, w, false)
		for _, v := range rightVals() {
			within(t, w, v, false)
			within(t, v, w, false)
		}
	}
}

// P12.2: Join, written out.
func TestJoin(t *testing.T) {
	for _, v := range rightVals() {
		joins(t, v, v, v)
		joins(t, v, none(), none())
	}
	joins(t, of(4), of(4), of(4))
	joins(t, of(4), num(fact.Any()), num(fact.Any()))
	joins(t, of(0), of(255), num(fromTo(0, 255)))
	joins(t, of(0), of(8), num(api.Fact{Bits: api.Tnum{Mask: 8}, Range: api.Span{High: 8}}))
	joins(t, num(fromTo(3, 5)), num(fromTo(50, 100)), num(fromTo(3, 100)))
	joins(t, ctx(8), ctx(0), none())
	joins(t, ctx(8), stack(8), none())
	joins(t, ctx(0), num(fact.Any()), none())
	joins(t, stack(8), stack(9), none())
	joins(t, word(1), word(2), none())
	joins(t, in(1, 0), in(2, 0), none())
	joins(t, in(1, 0), in(1, 8), none())
	joins(t, in(1, 0), maybe(1), none())
	joins(t, of(0), in(1, 0), none())
	joins(t, of(0), maybe(1), none())
	joins(t, maybe(1), maybe(2), none())
}

// P12.2: Join, of each Val and each other one, by the chapter's words; of such as are not right zero.
func TestJoinOfAll(t *testing.T) {
	for _, a := range rightVals() {
		for _, b := range rightVals() {
			want := none()
			if a.Kind == aNum && b.Kind == aNum {
				want = num(fact.Join(a.N, b.N))
			} else if a == b {
				want = a
			}
			joins(t, a, b, want)
		}
	}
	for _, w := range wrongVals() {
		joins(t, w, w, none())
		for _, v := range rightVals() {
			joins(t, w, v, none())
		}
	}
}

// P12.2: Move, of Pointers, to the edges and behind them.
func TestMove(t *testing.T) {
	for _, p := range []func(off int) api.Val{ctx, stack, func(off int) api.Val { return in(0, off) }, func(off int) api.Val { return in(7, off) }} {
		moves(t, p(0), 0, p(0))
		moves(t, p(8), 8, p(16))
		moves(t, p(0), back(1), p(-1))
		moves(t, p(504), back(504), p(0))
		moves(t, p(-8), 16, p(8))
		moves(t, p(0), far, p(far))
		moves(t, p(0), back(far), p(-far))
		moves(t, p(far), back(far), p(0))
		moves(t, p(-far), far, p(0))
		moves(t, p(far), 0, p(far))
		moves(t, p(-far), 0, p(-far))
		moves(t, p(far-1), 1, p(far))
		moves(t, p(1-far), back(1), p(-far))
		stays(t, p(far), 1)
		stays(t, p(-far), back(1))
		stays(t, p(1), far)
		stays(t, p(-1), back(far))
		stays(t, p(far), far)
		stays(t, p(-far), back(far))
	}
}

// P12.2: Move is by no more than 2^20 either way, wherever that would come to.
func TestMoveTooFar(t *testing.T) {
	for _, p := range []func(off int) api.Val{ctx, stack, func(off int) api.Val { return in(3, off) }} {
		for _, off := range []int{-far, -1, 0, 1, far} {
			for _, n := range []uint64{far + 1, far + 2, 2 * far, 1 << 31, math.MaxUint32, 1 << 32, 1<<32 + 8, math.MaxInt64, 1 << 63, 1<<63 + 8} {
				stays(t, p(off), n)
				stays(t, p(off), back(n))
			}
		}
	}
}

// P12.2: Move, of what is no Pointer, or not right.
func TestMoveOfOthers(t *testing.T) {
	for _, n := range []uint64{0, 1, 8, back(1), back(8), far, far + 1, 1 << 63} {
		for _, v := range rightVals() {
			if v.Kind != aCtx && v.Kind != aStack && v.Kind != anIn {
				stays(t, v, n)
			}
		}
		for _, v := range wrongVals() {
			stays(t, v, n)
		}
	}
	stays(t, stack(far+1), back(1))
	stays(t, in(8, 0), 8)
}

// P12.2: Move, of drawn Pointers by drawn numbers.
func TestMoveOfDrawn(t *testing.T) {
	r := rand.New(rand.NewPCG(12, 2))
	moved := 0
	for range 20000 {
		v, _ := drawn(r)
		by := r.IntN(2*far+41) - far - 20
		want := v
		want.Off += by
		if v.Kind == aCtx || v.Kind == aStack || v.Kind == anIn {
			if by >= -far && by <= far && want.Off >= -far && want.Off <= far {
				moves(t, v, uint64(by), want)
				moved++
				continue
			}
		}
		stays(t, v, uint64(by))
	}
	if moved < 1000 {
		t.Errorf("%d moves", moved)
	}
}

// P12.3: what is within another one may be it; what may be one of two may be their Join, and each is within it.
func TestWhatFollowsOfTwo(t *testing.T) {
	for _, a := range rightVals() {
		for _, b := range rightVals() {
			within(t, a, val.Join(a, b), true)
			within(t, b, val.Join(a, b), true)
		}
	}
	r := rand.New(rand.NewPCG(12, 3))
	inside := 0
	for range 50000 {
		a, n := drawn(r)
		b, _ := drawn(r)
		is(t, a, n, true, true)
		is(t, val.Join(a, b), n, true, true)
		is(t, val.Join(b, a), n, true, true)
		if val.Within(a, b) {
			is(t, b, n, true, true)
			inside++
		}
	}
	if inside < 1000 {
		t.Errorf("%d within another one", inside)
	}
}

// P12.3: of what is within none, or joined to none, a register that is not set may be, too.
func TestWhatFollowsOfUnset(t *testing.T) {
	for _, v := range rightVals() {
		is(t, val.Join(v, none()), 0, false, true)
		is(t, val.Join(none(), v), 0, false, true)
		if val.Within(none(), v) {
			is(t, v, 0, false, true)
		}
	}
}

// P12.3: where a register is moved it is.
func TestWhatFollowsOfMove(t *testing.T) {
	r := rand.New(rand.NewPCG(12, 4))
	moved := 0
	for range 50000 {
		v, n := drawn(r)
		by := uint64(r.IntN(2*far+41) - far - 20)
		if to, ok := val.Move(v, by); ok {
			is(t, to, n+by, true, true)
			moved++
		}
	}
	if moved < 1000 {
		t.Errorf("%d moves", moved)
	}
}
