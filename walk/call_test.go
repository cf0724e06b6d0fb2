package walk_test

import (
	"math"
	"testing"

	"hackle/api"
)

// call is a helper.
func call(id int32) []api.Insn { return ins(api.Insn{Op: 133, Imm: id}) }

// told is s with registers 1, 2, .. as told, and without those behind them up to 5.
func told(s api.State, l ...api.Val) api.State {
	for i := range 5 {
		s.Regs[1+i] = none()
	}
	for i, v := range l {
		s.Regs[1+i] = v
	}
	return s
}

// tells asks what is known behind a helper: register 0, not 1 to 5, all else as it was.
func tells(t *testing.T, s api.State, id int32, v api.Val) {
	t.Helper()
	for _, s := range []api.State{s, reg(s, 0, none()), reg(s, 5, of(1))} {
		on(t, s, call(id), reg(told(s), 0, v))
	}
}

// P14.5: ErrHelper of helpers that are none, whatever the registers are.
func TestHelperOfNone(t *testing.T) {
	for _, id := range []int32{0, 4, 9, 10, 16, 69, 257, 1 << 16, 1<<16 + 1, 1<<24 + 5, math.MaxInt32, -1, -2, -255, math.MinInt32, math.MinInt32 + 1} {
		refuses(t, busy(), call(id), errHelper)
		refuses(t, told(busy()), call(id), errHelper)
		refuses(t, told(busy(), word(0), stack(440), stack(440), of(0)), call(id), errHelper)
	}
}

// P14.5: those that draw are told nothing, whatever is in the registers, and tell a number up to what they draw at most.
func TestDraws(t *testing.T) {
	for id, v := range map[int32]api.Val{5: anything(), 7: upTo(32), 8: upTo(6)} {
		tells(t, busy(), id, v)
		tells(t, told(busy()), id, v)
		tells(t, first(), id, v)
		tells(t, told(busy(), word(7), maybe(1), in(0, 900), ctx(-1), stack(0)), id, v)
	}
}

// P14.5: note is told two numbers, and tells 0.
func TestNote(t *testing.T) {
	for _, a := range append(all(), none()) {
		for _, b := range append(all(), none()) {
			s := told(busy(), a, b)
			switch {
			case a.Kind == 0:
				refuses(t, s, call(6), errUnset)
			case a.Kind != 1:
				refuses(t, s, call(6), errPointer)
			case b.Kind == 0:
				refuses(t, s, call(6), errUnset)
			case b.Kind != 1:
				refuses(t, s, call(6), errPointer)
			default:
				on(t, s, call(6), reg(told(s), 0, of(0)))
			}
		}
	}
}

// full is where something was put to all bytes of the stack that a key or a value has.
var full = stack(440)

// P14.5: look, put and drop of maps that are given: what they tell.
func TestOfMaps(t *testing.T) {
	for i := range 2 {
		tells(t, told(busy(), word(i), full), 1, maybe(i))
		tells(t, told(busy(), word(i), full, full, of(0)), 2, anything())
		tells(t, told(busy(), word(i), full), 3, anything())
		for _, v := range numbers() {
			tells(t, told(busy(), word(i), full, full, v), 2, anything())
		}
		for _, v := range append(all(), none()) {
			// What a helper is not told may be anything.
			tells(t, told(busy(), word(i), full, v, v, v), 1, maybe(i))
			tells(t, told(busy(), word(i), full, v, v, v), 3, anything())
			tells(t, told(busy(), word(i), full, full, of(1), v), 2, anything())
		}
	}
}

// P14.5: the first register is the word of a map that is given.
func TestToldOfTables(t *testing.T) {
	for _, id := range []int32{1, 2, 3} {
		for _, v := range append(all(), stack(512), word(2), word(3)) {
			if v == word(0) || v == word(1) {
				continue
			}
			refuses(t, told(busy(), v, full, full, of(0)), call(id), errTold)
			refuses(t, told(busy(), v), call(id), errTold)
			refuses(t, told(busy(), v, of(0)), call(id), errTold)
		}
		refuses(t, told(busy()), call(id), errUnset)
		refuses(t, told(busy(), none(), full, full, of(0)), call(id), errUnset)
	}
	// Hashed or not, a map is told by its own word.
	g := api.Given{Defs: []api.Def{{Key: 4, Val: 8, Max: 1}, {Hash: true, Key: 16, Val: 8, Max: 1}, {Hash: true, Key: 1, Val: 8, Max: 1}}}
	for i, size := range []int{4, 16, 1} {
		for _, c := range []struct {
			off int
			e   api.Errno
		}{{512 - size, 0}, {513 - size, errFault}} {
			s := told(slot(slot(first(), 62, none(), 255), 63, none(), 255), word(i), stack(c.off))
			asks(t, append(call(1), exit), g, 0, s, c.e)
			asks(t, append(call(3), exit), g, 0, s, c.e)
		}
	}
}

// shown is why so many bytes of memory can't be read by a helper, by the chapter's words.
func shown(s api.State, at api.Val, size int) api.Errno {
	room := map[api.Val]int{ctx(0): 20, stack(0): 512, in(0, 0): 16, in(1, 0): 8}[off(at, -at.Off)]
	switch {
	case at.Kind == 0:
		return errUnset
	case at.Kind != 2 && at.Kind != 3 && at.Kind != 5:
		return errPointer
	case at.Off < 0 || at.Off+size > room:
		return errFault
	}
	for i := at.Off; at.Kind == 3 && i < at.Off+size; i++ {
		if s.Slots[i/8].Put>>(i%8)&1 == 0 {
			return errBlank
		}
	}
	return 0
}

// memory is where a helper may be told, or not, that a key or a value is: near all edges, and what is no Pointer.
func memory() []api.Val {
	l := append(all(), none())
	for sum := -3; sum < 24; sum++ {
		for _, r := range rooms() {
			l = append(l, off(r.at, sum))
		}
	}
	for sum := 395; sum < 520; sum++ {
		l = append(l, stack(sum))
	}
	return append(l, stack(-1), stack(0), stack(far), stack(-far))
}

// P14.5: keys of maps are read of any memory, if they are there, and something was put to all their bytes.
func TestToldOfKeys(t *testing.T) {
	for _, id := range []int32{1, 2, 3} {
		for i, size := range []int{4, 3} {
			for _, at := range memory() {
				s := told(busy(), word(i), at, full, of(0))
				if e := shown(s, at, size); e != 0 {
					refuses(t, s, call(id), e)
					refuses(t, told(busy(), word(i), at), call(id), e)
					refuses(t, told(busy(), word(i), at, stack(0), ctx(0)), call(id), e)
					continue
				}
				want := anything()
				if id == 1 {
					want = maybe(i)
				}
				on(t, s, call(id), reg(told(s), 0, want))
			}
		}
	}
}

// P14.5: values of maps are, too; they are told behind the key.
func TestToldOfValues(t *testing.T) {
	for i, size := range []int{16, 8} {
		for _, at := range memory() {
			s := told(busy(), word(i), full, at, of(0))
			if e := shown(s, at, size); e != 0 {
				refuses(t, s, call(2), e)
				refuses(t, told(busy(), word(i), full, at), call(2), e)
				refuses(t, told(busy(), word(i), full, at, ctx(0)), call(2), e)
				continue
			}
			on(t, s, call(2), reg(told(s), 0, anything()))
		}
	}
}

// P14.5: the flags are told last, and are a number.
func TestToldOfFlags(t *testing.T) {
	for i := range 2 {
		for _, v := range append(others(), stack(512)) {
			refuses(t, told(busy(), word(i), full, full, v), call(2), errPointer)
		}
		refuses(t, told(busy(), word(i), full, full), call(2), errUnset)
		refuses(t, told(busy(), word(i), full, full, none(), of(0)), call(2), errUnset)
	}
}

// P14.5: what is wrong with a register is told ahead of what is wrong with the next.
func TestToldInOrder(t *testing.T) {
	blank, out := stack(0), stack(512)
	for _, c := range []struct {
		id   int32
		regs []api.Val
		want api.Errno
	}{
		{1, []api.Val{none(), out}, errUnset}, {1, []api.Val{of(0)}, errTold}, {1, []api.Val{word(2)}, errTold}, {1, []api.Val{word(1)}, errUnset}, {1, []api.Val{word(0), of(0)}, errPointer},
		{2, []api.Val{word(0), out, none(), none()}, errFault}, {2, []api.Val{word(0), blank, none(), none()}, errBlank}, {2, []api.Val{word(0), of(4), none(), none()}, errPointer}, {2, []api.Val{word(0), none(), out, ctx(0)}, errUnset},
		{2, []api.Val{word(0), full, none(), ctx(0)}, errUnset}, {2, []api.Val{word(0), full, word(0), none()}, errPointer}, {2, []api.Val{word(0), full, out, none()}, errFault}, {2, []api.Val{word(0), full, blank, none()}, errBlank}, {2, []api.Val{word(0), full, blank, ctx(0)}, errBlank},
		{2, []api.Val{word(0), full, full, none()}, errUnset}, {2, []api.Val{word(0), full, full, ctx(0)}, errPointer}, {3, []api.Val{word(7), none()}, errTold}, {3, []api.Val{none(), none()}, errUnset}, {6, []api.Val{ctx(0)}, errPointer}, {6, []api.Val{of(0)}, errUnset}, {6, []api.Val{none(), ctx(0)}, errUnset},
	} {
		refuses(t, told(busy(), c.regs...), call(c.id), c.want)
	}
}

// P14.5: a key that was put by parts, across slots, is there; one byte that was not put is told.
func TestToldAcrossSlots(t *testing.T) {
	s := told(slot(slot(first(), 7, none(), 0xe0), 8, none(), 0x01), word(0), stack(61))
	on(t, s, call(1), reg(told(s), 0, maybe(0)))
	for at := 61; at < 65; at++ {
		holed := s
		holed.Slots[at/8].Put &^= 1 << (at % 8)
		refuses(t, holed, call(1), errBlank)
	}
}
