package state_test

import (
	"math/rand/v2"
	"testing"

	"hackle/api"
	"hackle/fact"
	"hackle/state"
	"hackle/val"
)

// within asks whether one state is within another one.
func within(t *testing.T, a, b api.State, want bool) {
	t.Helper()
	if got := state.Within(a, b); got != want {
		t.Errorf("Within = %t; want %t", got, want)
	}
}

// P13.3: Within, of each register with each Val and each other one.
func TestWithinOfRegisters(t *testing.T) {
	for i := range regs {
		for _, v := range rightVals() {
			for _, w := range rightVals() {
				within(t, reg(parted(), i, v), reg(parted(), i, w), val.Within(v, w))
			}
		}
	}
	within(t, reg(first(), 0, of(4)), reg(first(), 0, upTo(3)), true)
	within(t, reg(first(), 0, upTo(3)), reg(first(), 0, of(4)), false)
	within(t, reg(first(), 10, stack(512)), reg(first(), 10, none()), true)
	within(t, reg(first(), 10, none()), reg(first(), 10, stack(512)), false)
}

// P13.3: Within, of each slot with each V and each other one.
func TestWithinOfSlots(t *testing.T) {
	for i := range slots {
		for _, v := range knownVals() {
			a := slot(parted(), i, v, 255)
			within(t, a, slot(parted(), i, none(), 255), true)
			within(t, a, slot(parted(), i, none(), 0), true)
			within(t, slot(parted(), i, none(), 255), a, false)
			within(t, slot(parted(), i, none(), 0), a, false)
			within(t, a, a, true)
		}
	}
	for _, i := range []int{0, 1, 30, 62, 63} {
		for _, v := range knownVals() {
			for _, w := range knownVals() {
				within(t, slot(first(), i, v, 255), slot(first(), i, w, 255), val.Within(v, w))
			}
		}
	}
}

// P13.3: Within, of each Put and each other one: what is asked of the second was put in the first.
func TestWithinOfPuts(t *testing.T) {
	for a := range 256 {
		for b := range 256 {
			want := true
			for bit := 1; bit < 256; bit *= 2 {
				if b/bit%2 == 1 && a/bit%2 == 0 {
					want = false
				}
			}
			i := (a + b) % slots
			within(t, slot(first(), i, none(), uint8(a)), slot(first(), i, none(), uint8(b)), want)
		}
	}
}

// P13.3: Within, of states of all kinds and each other one, by the chapter's words.
func TestWithinOfStates(t *testing.T) {
	for _, a := range rightStates() {
		within(t, a, a, true)
		within(t, a, api.State{}, true)
		for _, b := range rightStates() {
			within(t, a, b, isWithin(a, b))
		}
	}
}

// P13.3: Within, of states that are not right: false, whatever the other one is.
func TestWithinOfWrong(t *testing.T) {
	for _, w := range wrongStates() {
		within(t, w, w, false)
		for _, s := range rightStates() {
			within(t, w, s, false)
			within(t, s, w, false)
		}
	}
	// Also where the rest is within it.
	within(t, slot(first(), 9, of(7), 254), first(), false)
	within(t, slot(first(), 9, none(), 255), slot(first(), 9, api.Val{I: 1}, 0), false)
	within(t, reg(first(), 0, word(8)), first(), false)
	within(t, filled(of(7), 255), slot(filled(of(7), 255), 63, of(7), 254), false)
}

// drawnStep does to s, and to what may be it, one thing that is drawn; s is told what may be known behind it.
func drawnStep(t *testing.T, r *rand.Rand, s api.State, is *actual) api.State {
	t.Helper()
	v, n := drawn(r)
	if r.IntN(4) == 0 {
		i := r.IntN(regs)
		s, e := state.Set(s, i, v)
		if e != api.OK || s.Regs[i] != v {
			t.Fatalf("Set(.., %d, %v): error %d", i, v, e)
		}
		is.reg[i], is.isSet[i] = n, true
		return s
	}
	size := 1 << r.IntN(4)
	if size < 8 {
		v, n = drawnNum(r)
	}
	off := r.IntN(64/size) * size
	if r.IntN(2) == 0 {
		off += bytes - 64
	}
	is.store(off, size, n)
	s = put(t, s, off, size, v)
	if !state.Full(s, off, size) {
		t.Fatalf("not Full of %d bytes at %d that were put", size, off)
	}
	if got, e := state.Get(s, off, size); e != api.OK || size == 8 && got != v || size < 8 && got != upTo(8*size) {
		t.Fatalf("Get(.., %d, %d) = %v, %d behind Put of %v", off, size, got, e, v)
	}
	return s
}

// P13.4: what was put is got, as long as nothing else is put there: what is got may be what is on a stack, bytes by bytes.
func TestWhatFollowsOfPut(t *testing.T) {
	r := rand.New(rand.NewPCG(13, 1))
	told, blank := 0, 0
	for range 60 {
		s, is := state.First(), begun()
		for range 60 {
			s = drawnStep(t, r, s, is)
			if !state.Right(s) || !is.mayBeOf(s) {
				t.Fatal("what is known is not so")
			}
			for _, size := range []int{1, 2, 4, 8} {
				off := r.IntN(bytes/size) * size
				v, e := state.Get(s, off, size)
				n, all := is.load(off, size)
				if all != (e == api.OK) || all != state.Full(s, off, size) || all && !val.Is(v, n, true) {
					t.Fatalf("Get(.., %d, %d) = %v, %d of %#x, %t", off, size, v, e, n, all)
				}
				if all {
					told++
				} else {
					blank++
				}
			}
		}
	}
	if told < 1000 || blank < 1000 {
		t.Errorf("%d were told, %d blank", told, blank)
	}
}

// looser is s with less known of one thing, drawn; now and then it is other.
func looser(r *rand.Rand, s api.State) api.State {
	i := r.IntN(regs)
	j := r.IntN(16) * 61 % slots
	v, _ := drawn(r)
	switch r.IntN(9) {
	case 0:
		s.Regs[i] = none()
	case 1:
		s.Regs[i] = val.Join(s.Regs[i], v)
	case 2:
		s.Regs[i] = val.Join(s.Regs[i], anything())
	case 3:
		s.Slots[j] = api.Slot{V: none(), Put: s.Slots[j].Put & uint8(r.IntN(256))}
	case 4:
		s.Slots[j].V = none()
	case 5:
		s.Slots[j].V = val.Join(s.Slots[j].V, v)
	case 6:
		s.Slots[j].V = val.Join(s.Slots[j].V, anything())
	case 7:
		if r.IntN(8) == 0 {
			s.Slots[j] = api.Slot{V: v, Put: 255}
		}
	case 8:
		if r.IntN(8) == 0 {
			s.Slots[j].Put = 255
		}
	}
	return s
}

// P13.4: what is within another state may be it; P13.3: Within of drawn states, by the chapter's words.
func TestWhatFollowsOfWithin(t *testing.T) {
	r := rand.New(rand.NewPCG(13, 2))
	count := map[bool]int{}
	for range 120 {
		s, is := state.First(), begun()
		for range 40 {
			s = drawnStep(t, r, s, is)
		}
		b := s
		for range 30 {
			b = looser(r, b)
			got := state.Within(s, b)
			count[got]++
			if got != isWithin(s, b) {
				t.Fatalf("Within = %t", got)
			}
			if got && !is.mayBeOf(b) {
				t.Fatal("what is within another state isn't it")
			}
		}
	}
	if count[true] < 500 || count[false] < 500 {
		t.Errorf("within: %v", count)
	}
}

// What is known of so many bytes is settled, as layer 6 asks.
func TestNumbersAreSettled(t *testing.T) {
	for _, size := range []int{1, 2, 4, 8} {
		v, e := state.Get(filled(none(), 255), 8, size)
		f, ok := fact.Settle(v.N)
		if e != api.OK || !ok || f != v.N || !val.Right(v) {
			t.Errorf("Get of %d bytes is %v, %d", size, v, e)
		}
	}
}
