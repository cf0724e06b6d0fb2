package state_test

import (
	"math"
	"testing"

	"hackle/api"
	"hackle/state"
)

// right asks whether a state may be.
func right(t *testing.T, s api.State, want bool) {
	t.Helper()
	if got := state.Right(s); got != want {
		t.Errorf("Right = %t; want %t", got, want)
	}
}

// sets asks for a state with a register.
func sets(t *testing.T, s api.State, i int, v api.Val, want api.State, wrong api.Errno) {
	t.Helper()
	if got, e := state.Set(s, i, v); got != want || e != wrong {
		t.Errorf("Set(.., %d, %v): error %d, as it should be: %t; want error %d", i, v, e, got == want, wrong)
	}
}

// puts asks for a state behind something that was put to the stack.
func puts(t *testing.T, s api.State, off, size int, v api.Val, want api.State, wrong api.Errno) {
	t.Helper()
	if got, e := state.Put(s, off, size, v); got != want || e != wrong {
		t.Errorf("Put(.., %d, %d, %v): error %d, as it should be: %t; want error %d", off, size, v, e, got == want, wrong)
	}
}

// gets asks what is on the stack.
func gets(t *testing.T, s api.State, off, size int, want api.Val, wrong api.Errno) {
	t.Helper()
	if got, e := state.Get(s, off, size); got != want || e != wrong {
		t.Errorf("Get(.., %d, %d) = %v, %d; want %v, %d", off, size, got, e, want, wrong)
	}
}

// full asks whether something was put to all bytes.
func full(t *testing.T, s api.State, off, size int, want bool) {
	t.Helper()
	if got := state.Full(s, off, size); got != want {
		t.Errorf("Full(.., %d, %d) = %t; want %t", off, size, got, want)
	}
}

// put is a state behind something that may be put.
func put(t *testing.T, s api.State, off, size int, v api.Val) api.State {
	t.Helper()
	s, e := state.Put(s, off, size, v)
	if e != api.OK {
		t.Fatalf("Put(.., %d, %d, %v): error %d", off, size, v, e)
	}
	return s
}

// offs are places of the stack, all that there are, those near its ends, and some far from it.
func offs() []int {
	l := []int{math.MinInt, math.MinInt + 8, -1 << 32, -520, -512, 1 << 32, 1<<32 + 8, math.MaxInt - 511, math.MaxInt - 8, math.MaxInt - 7, math.MaxInt}
	for off := -17; off < bytes+17; off++ {
		l = append(l, off)
	}
	return l
}

// sizes are those that may be put at once, those near them, and some that are such only by their lowest bits.
func sizes() []int {
	l := []int{math.MinInt, -1 << 32, -8, -4, 16, 24, 32, 64, 255, 256, 264, 512, 1<<32 + 1, 1<<32 + 8, math.MaxInt}
	for size := -3; size < 14; size++ {
		l = append(l, size)
	}
	return l
}

// The chapter's examples.
func TestExamples(t *testing.T) {
	gets(t, state.First(), 0, 8, none(), 81)
	s := put(t, state.First(), 4, 4, of(9))
	gets(t, s, 4, 2, num(api.Fact{Bits: api.Tnum{Mask: 65535}, Range: api.Span{High: 65535}}), 0)
}

// P13.1: First, register by register and slot by slot.
func TestFirst(t *testing.T) {
	s := state.First()
	for i, v := range s.Regs {
		want := api.Val{}
		switch i {
		case 1:
			want = api.Val{Kind: 2}
		case 10:
			want = api.Val{Kind: 3, Off: 512}
		}
		if v != want {
			t.Errorf("register %d is %v; want %v", i, v, want)
		}
	}
	for i, slot := range s.Slots {
		if slot != (api.Slot{}) {
			t.Errorf("slot %d is %v; want zero", i, slot)
		}
	}
	if len(s.Regs) != regs || len(s.Slots) != slots {
		t.Errorf("%d registers, %d slots", len(s.Regs), len(s.Slots))
	}
	right(t, s, true)
}

// P13.1: Right, of each register with each Val.
func TestRightOfRegisters(t *testing.T) {
	for _, s := range []api.State{{}, first(), parted()} {
		for i := range regs {
			for _, v := range rightVals() {
				right(t, reg(s, i, v), true)
			}
			for _, v := range wrongVals() {
				right(t, reg(s, i, v), false)
			}
		}
	}
}

// P13.1: Right, of each slot with each Val: a V that is not ValNone was put whole.
func TestRightOfSlots(t *testing.T) {
	for i := range slots {
		for _, v := range knownVals() {
			right(t, slot(first(), i, v, 255), true)
			right(t, slot(first(), i, v, 0), false)
			right(t, slot(parted(), i, v, 0x7f), false)
			right(t, slot(parted(), i, v, 0xfe), false)
		}
		for _, v := range wrongVals() {
			right(t, slot(first(), i, v, 255), false)
			right(t, slot(first(), i, v, 0), false)
		}
	}
}

// P13.1: Right, of each Put, with a V and with none.
func TestRightOfPuts(t *testing.T) {
	for bits := range 256 {
		for _, i := range []int{0, 31, 63} {
			right(t, slot(first(), i, none(), uint8(bits)), true)
			right(t, slot(first(), i, of(0), uint8(bits)), bits == 255)
			right(t, slot(first(), i, ctx(0), uint8(bits)), bits == 255)
		}
	}
}

// P13.1: Right, of states of all kinds.
func TestRightOfStates(t *testing.T) {
	for _, s := range rightStates() {
		right(t, s, true)
	}
	for _, s := range wrongStates() {
		right(t, s, false)
	}
}

// P13.1: Set, of each register and each Val: all else stays.
func TestSet(t *testing.T) {
	for _, s := range rightStates() {
		for i := range regs {
			for _, v := range rightVals() {
				sets(t, s, i, v, reg(s, i, v), 0)
			}
			for _, v := range wrongVals() {
				sets(t, s, i, v, api.State{}, 1)
			}
		}
	}
}

// P13.1: Set, of registers that are none, and of states that are not right.
func TestSetOfWrong(t *testing.T) {
	for _, i := range []int{math.MinInt, -1 << 32, -11, -1, 11, 12, 16, 255, 256, 1 << 32, 1<<32 + 1, math.MaxInt} {
		sets(t, first(), i, of(7), api.State{}, 1)
		sets(t, first(), i, none(), api.State{}, 1)
		sets(t, first(), i, word(8), api.State{}, 1)
	}
	for _, s := range wrongStates() {
		for i := range regs {
			sets(t, s, i, of(7), api.State{}, 1)
			sets(t, s, i, none(), api.State{}, 1)
		}
	}
}

// P13.1: Set makes no state right that isn't, though the register that is wrong would become another.
func TestSetOverWrong(t *testing.T) {
	for i := range regs {
		sets(t, reg(first(), i, word(8)), i, of(7), api.State{}, 1)
	}
}

// P13.2: Put, written out.
func TestPut(t *testing.T) {
	s := first()
	puts(t, s, 0, 1, of(7), slot(s, 0, none(), 0x01), 0)
	puts(t, s, 7, 1, of(7), slot(s, 0, none(), 0x80), 0)
	puts(t, s, 8, 1, of(7), slot(s, 1, none(), 0x01), 0)
	puts(t, s, 511, 1, of(7), slot(s, 63, none(), 0x80), 0)
	puts(t, s, 2, 2, of(7), slot(s, 0, none(), 0x0c), 0)
	puts(t, s, 510, 2, anything(), slot(s, 63, none(), 0xc0), 0)
	puts(t, s, 12, 4, of(7), slot(s, 1, none(), 0xf0), 0)
	puts(t, s, 508, 4, of(7), slot(s, 63, none(), 0xf0), 0)
	puts(t, s, 0, 8, of(7), slot(s, 0, of(7), 0xff), 0)
	puts(t, s, 504, 8, stack(512), slot(s, 63, stack(512), 0xff), 0)
	// A number goes to the bytes it is put to, however great it is.
	puts(t, s, 3, 1, of(math.MaxUint64), slot(s, 0, none(), 0x08), 0)
}

// P13.2: Put over what was put: of fewer than eight bytes no V stays, and the bits of the others do.
func TestPutOver(t *testing.T) {
	s := slot(first(), 5, in(1, 8), 255)
	puts(t, s, 40, 8, of(3), slot(s, 5, of(3), 255), 0)
	puts(t, s, 40, 4, of(3), slot(s, 5, none(), 255), 0)
	puts(t, s, 47, 1, of(3), slot(s, 5, none(), 255), 0)
	puts(t, s, 48, 1, of(3), slot(s, 6, none(), 1), 0)
	s = slot(first(), 5, none(), 0x12)
	puts(t, s, 40, 1, of(3), slot(s, 5, none(), 0x13), 0)
	puts(t, s, 41, 1, of(3), slot(s, 5, none(), 0x12), 0)
	puts(t, s, 46, 2, of(3), slot(s, 5, none(), 0xd2), 0)
	puts(t, s, 44, 4, of(3), slot(s, 5, none(), 0xf2), 0)
	puts(t, s, 40, 8, word(3), slot(s, 5, word(3), 0xff), 0)
}

// P13.2: Put, of each kind to each size: where memory is takes all eight.
func TestPutOfKinds(t *testing.T) {
	for _, s := range rightStates() {
		for _, v := range knownVals() {
			puts(t, s, 16, 8, v, slot(s, 2, v, 255), 0)
			for _, size := range []int{1, 2, 4} {
				if v.Kind != 1 {
					puts(t, s, 16, size, v, api.State{}, 1)
				} else {
					puts(t, s, 16, size, v, slot(s, 2, none(), s.Slots[2].Put|(1<<size-1)), 0)
				}
			}
		}
		for _, size := range []int{1, 2, 4, 8} {
			puts(t, s, 16, size, none(), api.State{}, 1)
			for _, v := range wrongVals() {
				puts(t, s, 16, size, v, api.State{}, 1)
			}
		}
	}
}

// P13.2: of several errors of Put the first one is told.
func TestPutErrors(t *testing.T) {
	s := first()
	for _, c := range []struct {
		off, size int
		v         api.Val
		wrong     api.Errno
	}{
		{-1, 3, of(7), 1}, {0, 0, of(7), 1}, {513, 16, of(7), 1}, {3, -8, of(7), 1},
		{-8, 8, none(), 1}, {512, 8, word(8), 1}, {3, 4, stack(0), 1}, {-4, 4, ctx(0), 1}, {3, 8, none(), 1}, {600, 2, maybe(0), 1},
		{-1, 1, of(7), 80}, {-1, 8, of(7), 80}, {-8, 8, of(7), 80}, {-3, 4, of(7), 80}, {math.MinInt, 8, of(7), 80},
		{512, 1, of(7), 80}, {511, 2, of(7), 80}, {510, 4, of(7), 80}, {505, 8, of(7), 80}, {512, 8, stack(0), 80}, {math.MaxInt, 8, of(7), 80}, {math.MaxInt - 7, 8, of(7), 80},
		{1, 2, of(7), 130}, {509, 2, of(7), 130}, {2, 4, of(7), 130}, {507, 4, of(7), 130}, {4, 8, of(7), 130}, {503, 8, stack(0), 130}, {1, 8, stack(0), 130},
	} {
		puts(t, s, c.off, c.size, c.v, api.State{}, c.wrong)
	}
}

// P13.2: Put, of all places and sizes, by the chapter's words.
func TestPutOfAll(t *testing.T) {
	for i, s := range []api.State{first(), parted()} {
		for _, off := range offs() {
			for _, size := range sizes() {
				for _, v := range []api.Val{of(7), stack(8), none()} {
					want, wrong := putTo(s, off, size, v)
					if got, e := state.Put(s, off, size, v); got != want || e != wrong {
						t.Fatalf("state %d: Put(.., %d, %d, %v): error %d, as it should be: %t; want error %d", i, off, size, v, e, got == want, wrong)
					}
				}
			}
		}
	}
}

// P13.2: Put to, Get of, and Full of states that are not right.
func TestOfWrongStates(t *testing.T) {
	for _, s := range wrongStates() {
		for _, off := range []int{-8, 0, 3, 8, 504, 512} {
			for _, size := range []int{0, 1, 4, 8} {
				puts(t, s, off, size, of(7), api.State{}, 1)
				gets(t, s, off, size, none(), 1)
				full(t, s, off, size, false)
			}
		}
	}
	// Also where what is wrong would be put over, or where it is asked for.
	puts(t, slot(first(), 2, stack(0), 127), 16, 8, of(7), api.State{}, 1)
	gets(t, slot(first(), 2, stack(0), 127), 16, 4, none(), 1)
	full(t, slot(first(), 2, stack(0), 127), 16, 4, false)
}

// P13.2: Get, written out.
func TestGet(t *testing.T) {
	s := slot(slot(slot(first(), 0, stack(504), 255), 1, none(), 255), 63, none(), 0x3e)
	gets(t, s, 0, 8, stack(504), 0)
	gets(t, s, 0, 4, upTo(32), 0)
	gets(t, s, 6, 2, upTo(16), 0)
	gets(t, s, 7, 1, upTo(8), 0)
	gets(t, s, 8, 8, anything(), 0)
	gets(t, s, 12, 4, upTo(32), 0)
	gets(t, s, 16, 1, none(), 81)
	gets(t, s, 16, 8, none(), 81)
	gets(t, s, 504, 1, none(), 81)
	gets(t, s, 505, 1, upTo(8), 0)
	gets(t, s, 509, 1, upTo(8), 0)
	gets(t, s, 510, 1, none(), 81)
	gets(t, s, 511, 1, none(), 81)
	gets(t, s, 504, 2, none(), 81)
	gets(t, s, 506, 2, upTo(16), 0)
	gets(t, s, 508, 2, upTo(16), 0)
	gets(t, s, 510, 2, none(), 81)
	gets(t, s, 504, 4, none(), 81)
	gets(t, s, 508, 4, none(), 81)
	gets(t, s, 504, 8, none(), 81)
	// Of a number that was put whole a part is as any other.
	gets(t, slot(s, 3, of(7), 255), 24, 8, of(7), 0)
	gets(t, slot(s, 3, of(7), 255), 24, 4, upTo(32), 0)
	gets(t, slot(s, 3, of(7), 255), 24, 1, upTo(8), 0)
}

// P13.2: Get, of each V that may be.
func TestGetOfKinds(t *testing.T) {
	for _, v := range knownVals() {
		for i := range slots {
			gets(t, slot(parted(), i, v, 255), 8*i, 8, v, 0)
			gets(t, slot(parted(), i, v, 255), 8*i+4, 4, upTo(32), 0)
		}
	}
}

// P13.2: of several errors of Get the first one is told.
func TestGetErrors(t *testing.T) {
	for _, s := range []api.State{first(), filled(none(), 255), filled(stack(0), 255)} {
		gets(t, s, -1, 3, none(), 1)
		gets(t, s, 0, 0, none(), 1)
		gets(t, s, 512, 16, none(), 1)
		gets(t, s, 0, -1, none(), 1)
		gets(t, s, -1, 1, none(), 80)
		gets(t, s, -3, 8, none(), 80)
		gets(t, s, 512, 1, none(), 80)
		gets(t, s, 510, 4, none(), 80)
		gets(t, s, 505, 8, none(), 80)
		gets(t, s, math.MaxInt, 8, none(), 80)
		gets(t, s, math.MinInt, 8, none(), 80)
		gets(t, s, 1, 2, none(), 130)
		gets(t, s, 2, 4, none(), 130)
		gets(t, s, 503, 8, none(), 130)
	}
}

// P13.2: Get, of all places and sizes, by the chapter's words.
func TestGetOfAll(t *testing.T) {
	for i, s := range rightStates() {
		for _, off := range offs() {
			for _, size := range sizes() {
				want, wrong := gotFrom(s, off, size)
				if got, e := state.Get(s, off, size); got != want || e != wrong {
					t.Fatalf("state %d: Get(.., %d, %d) = %v, %d; want %v, %d", i, off, size, got, e, want, wrong)
				}
			}
		}
	}
}

// P13.2: Get, of each Put that may be, at each place of a slot.
func TestGetOfPuts(t *testing.T) {
	for bits := range 256 {
		for _, i := range []int{0, 9, 63} {
			s := slot(first(), i, none(), uint8(bits))
			for _, size := range []int{1, 2, 4, 8} {
				for off := 8 * i; off < 8*i+8; off++ {
					want, wrong := gotFrom(s, off, size)
					gets(t, s, off, size, want, wrong)
				}
			}
		}
	}
}

// P13.2: Full, written out.
func TestFull(t *testing.T) {
	s := slot(slot(slot(first(), 1, none(), 0xf8), 2, stack(0), 255), 3, none(), 0x03)
	full(t, s, 11, 15, true)
	full(t, s, 10, 16, false)
	full(t, s, 11, 16, false)
	full(t, s, 13, 3, true)
	full(t, s, 16, 8, true)
	full(t, s, 15, 1, true)
	full(t, s, 10, 1, false)
	full(t, s, 26, 1, false)
	full(t, s, 10, 0, true)
	full(t, first(), 0, 0, true)
	full(t, first(), 512, 0, true)
	full(t, first(), 513, 0, false)
	full(t, first(), -1, 0, false)
	full(t, first(), 0, 1, false)
	full(t, s, 13, -1, false)
	full(t, s, 13, math.MinInt, false)
	all := filled(none(), 255)
	full(t, all, 0, 512, true)
	full(t, all, 0, 513, false)
	full(t, all, 1, 511, true)
	full(t, all, 1, 512, false)
	full(t, all, -1, 1, false)
	full(t, all, 511, 1, true)
	full(t, all, 512, 1, false)
	full(t, all, math.MaxInt, math.MaxInt, false)
	full(t, all, math.MaxInt, 1, false)
	full(t, all, 1, math.MaxInt, false)
	full(t, all, math.MinInt, math.MaxInt, false)
	full(t, all, math.MinInt, math.MinInt, false)
	full(t, all, math.MaxInt, math.MinInt, false)
	full(t, slot(all, 40, none(), 0xef), 0, 512, false)
}

// P13.2: Full, of all places and many sizes, by the chapter's words.
func TestFullOfAll(t *testing.T) {
	some := append(sizes(), 15, 17, 40, 63, 65, 100, 128, 500, 511, 513, 520)
	for i, s := range rightStates() {
		for _, off := range offs() {
			for _, size := range some {
				if got, want := state.Full(s, off, size), isFull(s, off, size); got != want {
					t.Fatalf("state %d: Full(.., %d, %d) = %t; want %t", i, off, size, got, want)
				}
			}
		}
	}
}

// P13.2: Full, of a stack of which all but one byte was put: of each byte and all ahead of it, or behind it.
func TestFullButOne(t *testing.T) {
	for at := range bytes {
		s := slot(filled(of(1), 255), at/8, none(), 255&^(1<<(at%8)))
		full(t, s, 0, at, true)
		full(t, s, 0, at+1, false)
		full(t, s, at, 1, false)
		full(t, s, at, 0, true)
		full(t, s, at+1, bytes-at-1, true)
		full(t, s, at, bytes-at, false)
	}
}
