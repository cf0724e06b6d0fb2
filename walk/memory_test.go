package walk_test

import (
	"testing"

	"hackle/api"
)

// sized is an Op, and how many bytes it has to do with.
type sized struct {
	op   uint8
	size int
}

// loads, signed, stores, puts, atoms are the Ops of memory; Atoms are each of what they do with an Imm.
func loads() []sized  { return []sized{{97, 4}, {105, 2}, {113, 1}, {121, 8}} }
func signed() []sized { return []sized{{129, 4}, {137, 2}, {145, 1}} }
func stores() []sized { return []sized{{98, 4}, {106, 2}, {114, 1}, {122, 8}} }
func puts() []sized   { return []sized{{99, 4}, {107, 2}, {115, 1}, {123, 8}} }
func atoms() []sized  { return []sized{{195, 4}, {219, 8}} }

// room is where memory of a fixed size begins, and its size, with what is given.
type room struct {
	at   api.Val
	size int
}

// rooms are all that are not the stack; of a map that is not given there is none.
func rooms() []room {
	return []room{{ctx(0), 20}, {in(0, 0), 16}, {in(1, 0), 8}, {in(2, 0), 0}, {in(7, 0), 0}}
}

// off is v, so many bytes on.
func off(v api.Val, by int) api.Val {
	v.Off += by
	return v
}

// offs are some ways to part a number into a register's Off and that of an instruction.
func offs(sum int) [][2]int {
	return [][2]int{{sum, 0}, {0, sum}, {sum - 5, 5}, {sum + 7, -7}, {sum - 32767, 32767}, {sum + 32768, -32768}}
}

// P14.3: Load of what is given, and of maps: a number of so many bytes, if they are there.
func TestLoadOfRooms(t *testing.T) {
	for _, r := range rooms() {
		for _, c := range append(loads(), signed()...) {
			for sum := -10; sum < r.size+10; sum++ {
				for _, o := range offs(sum) {
					s := reg(busy(), 4, off(r.at, o[0]))
					x := ins(api.Insn{Op: c.op, Dst: 3, Src: 4, Off: int16(o[1])})
					if sum < 0 || sum+c.size > r.size {
						refuses(t, s, x, errFault)
						continue
					}
					want := upTo(8 * c.size)
					if c.op > 128 {
						want = anything()
					}
					becomes(t, s, x, want)
				}
			}
		}
	}
}

// P14.3: Load of what is given hangs on how much that is.
func TestLoadOfGivenSizes(t *testing.T) {
	for n := range 65 {
		for sum := -1; sum < 66; sum++ {
			want := api.Errno(0)
			if sum < 0 || sum+4 > n {
				want = errFault
			}
			asks(t, ins(api.Insn{Op: 97, Src: 1, Off: int16(sum)}, exit), api.Given{Ctx: n}, 0, first(), want)
		}
	}
}

// P14.3: Load into the register that tells where memory is.
func TestLoadIntoItself(t *testing.T) {
	becomes(t, reg(busy(), 3, ctx(4)), ins(api.Insn{Op: 113, Dst: 3, Src: 3, Off: -4}), upTo(8))
	becomes(t, reg(busy(), 3, stack(0)), ins(api.Insn{Op: 121, Dst: 3, Src: 3, Off: 504}), of(300))
}

// P14.3: Load of the stack: what was put there whole, a number of what was put in parts, or an error.
func TestLoadOfStack(t *testing.T) {
	for _, c := range []struct {
		op   uint8
		off  int16
		want api.Val
		e    api.Errno
	}{
		{121, -8, of(300), 0}, {121, -16, stack(504), 0}, {121, -24, ctx(0), 0}, {121, -32, in(1, 0), 0}, {121, -40, maybe(0), 0}, {121, -48, word(0), 0}, {121, -56, anything(), 0}, {121, -64, upTo(8), 0}, {121, -80, anything(), 0},
		{97, -8, upTo(32), 0}, {97, -12, upTo(32), 0}, {105, -10, upTo(16), 0}, {113, -9, upTo(8), 0}, {97, -64, upTo(32), 0}, {113, -61, upTo(8), 0},
		{129, -8, anything(), 0}, {137, -16, anything(), 0}, {145, -17, anything(), 0}, {129, -80, anything(), 0},
		{97, -84, upTo(32), 0}, {97, -88, none(), errBlank}, {121, -88, none(), errBlank}, {129, -88, none(), errBlank}, {145, -85, none(), errBlank}, {145, -84, anything(), 0}, {113, -104, none(), errBlank}, {113, -103, upTo(8), 0}, {105, -104, none(), errBlank},
		{121, -112, none(), errBlank}, {113, -512, none(), errBlank}, {113, -513, none(), errFault}, {145, -513, none(), errFault}, {113, 0, none(), errFault}, {121, 0, none(), errFault}, {121, -7, none(), errFault}, {137, -1, none(), errFault}, {121, -516, none(), errFault}, {121, -32768, none(), errFault}, {121, 32767, none(), errFault},
		{121, -9, none(), errAlign}, {97, -6, none(), errAlign}, {105, -3, none(), errAlign}, {137, -3, none(), errAlign}, {129, -7, none(), errAlign}, {121, -508, none(), errAlign},
	} {
		for _, o := range []int16{0, 8, -8, 13, 512, -200} {
			if far := int(c.off) - int(o); far < -32768 || far > 32767 {
				continue
			}
			s := reg(busy(), 3, stack(512+int(o)))
			x := ins(api.Insn{Op: c.op, Dst: 4, Src: 3, Off: c.off - o})
			if c.e != 0 {
				refuses(t, s, x, c.e)
			} else {
				becomes(t, s, x, c.want)
			}
		}
	}
}

// P14.3: of what is no Pointer nothing is loaded, and nothing goes there; nor does what is no number go there by an Atom.
func TestMemoryOfOthers(t *testing.T) {
	for _, v := range append(words(), numbers()...) {
		for _, c := range append(loads(), signed()...) {
			refuses(t, reg(busy(), 4, v), ins(api.Insn{Op: c.op, Dst: 3, Src: 4}), errPointer)
		}
		for _, c := range stores() {
			refuses(t, reg(busy(), 3, v), ins(api.Insn{Op: c.op, Dst: 3}), errPointer)
		}
		for _, src := range all() {
			s := reg(reg(busy(), 3, v), 4, src)
			for _, c := range puts() {
				refuses(t, s, ins(api.Insn{Op: c.op, Dst: 3, Src: 4}), errPointer)
			}
			for _, c := range atoms() {
				refuses(t, s, ins(api.Insn{Op: c.op, Dst: 3, Src: 4}), errPointer)
			}
		}
	}
	for _, at := range append(places(), ctx(30), in(2, 0), stack(3), stack(512)) {
		for _, v := range others() {
			for _, c := range atoms() {
				refuses(t, reg(reg(busy(), 3, at), 4, v), ins(api.Insn{Op: c.op, Dst: 3, Src: 4, Imm: 160}), errPointer)
			}
		}
	}
}

// P14.3: what is given stays, wherever in it, or near it, and whatever goes there.
func TestFixed(t *testing.T) {
	for _, at := range []int{-far, -1, 0, 8, 16, 19, 20, 64, 1000, far} {
		s := reg(busy(), 3, ctx(at))
		for _, c := range stores() {
			refuses(t, s, ins(api.Insn{Op: c.op, Dst: 3, Off: 1}), errFixed)
		}
		for _, v := range all() {
			for _, c := range puts() {
				refuses(t, reg(s, 4, v), ins(api.Insn{Op: c.op, Dst: 3, Src: 4}), errFixed)
			}
		}
		for _, v := range numbers() {
			for _, c := range atoms() {
				refuses(t, reg(s, 4, v), ins(api.Insn{Op: c.op, Dst: 3, Src: 4, Imm: 64}), errFixed)
			}
		}
	}
	for _, c := range puts() {
		refuses(t, reg(busy(), 3, ctx(0)), ins(api.Insn{Op: c.op, Dst: 3, Src: 3}), errFixed)
	}
}

// P14.3: what goes to a map's value: numbers, if the bytes are there; nothing is known of them behind it.
func TestStoreToMaps(t *testing.T) {
	for _, r := range rooms()[1:] {
		for sum := -10; sum < r.size+10; sum++ {
			for _, o := range offs(sum) {
				s := reg(busy(), 3, off(r.at, o[0]))
				for _, c := range stores() {
					toMap(t, s, api.Insn{Op: c.op, Dst: 3, Off: int16(o[1]), Imm: -1}, sum, c.size, r.size)
				}
				for _, v := range append(others(), of(5), anything()) {
					for _, c := range puts() {
						toMap(t, reg(s, 4, v), api.Insn{Op: c.op, Dst: 3, Src: 4, Off: int16(o[1])}, sum, c.size, r.size)
					}
				}
				for _, imm := range []int32{0, 64, 80, 160} {
					for _, c := range atoms() {
						toMap(t, reg(s, 4, upTo(8)), api.Insn{Op: c.op, Dst: 3, Src: 4, Off: int16(o[1]), Imm: imm}, sum, c.size, r.size)
					}
				}
			}
		}
	}
}

// toMap asks of what goes to size bytes of a map's value of room bytes: that what is no number is told behind that the bytes are not there.
func toMap(t *testing.T, s api.State, x api.Insn, at, size, room int) {
	t.Helper()
	switch {
	case at < 0 || at+size > room:
		refuses(t, s, ins(x), errFault)
	case x.Src == 4 && s.Regs[4].Kind != 1:
		refuses(t, s, ins(x), errPointer)
	default:
		on(t, s, ins(x), s)
	}
}

// P14.3: a number of an instruction to the stack: of eight bytes it is known there.
func TestStoreToStack(t *testing.T) {
	s := busy()
	for imm, n := range map[int32]uint64{0: 0, 7: 7, -1: neg(1), -1 << 31: neg(1 << 31)} {
		on(t, s, ins(api.Insn{Op: 122, Dst: 10, Off: -8, Imm: imm}), slot(s, 63, of(n), 255))
		on(t, s, ins(api.Insn{Op: 122, Dst: 10, Off: -512, Imm: imm}), slot(s, 0, of(n), 255))
		on(t, s, ins(api.Insn{Op: 98, Dst: 10, Off: -12, Imm: imm}), slot(s, 62, none(), 255))
		on(t, s, ins(api.Insn{Op: 98, Dst: 10, Off: -508, Imm: imm}), slot(s, 0, none(), 0xf0))
		on(t, s, ins(api.Insn{Op: 106, Dst: 10, Off: -510, Imm: imm}), slot(s, 0, none(), 0x0c))
		on(t, s, ins(api.Insn{Op: 114, Dst: 10, Off: -505, Imm: imm}), slot(s, 0, none(), 0x80))
		on(t, s, ins(api.Insn{Op: 114, Dst: 10, Off: -88, Imm: imm}), slot(s, 53, none(), 0xf1))
		on(t, s, ins(api.Insn{Op: 114, Dst: 10, Off: -1, Imm: imm}), slot(s, 63, none(), 255))
	}
	for _, c := range stores() {
		refuses(t, s, ins(api.Insn{Op: c.op, Dst: 10}), errFault)
		refuses(t, s, ins(api.Insn{Op: c.op, Dst: 10, Off: -512 - int16(c.size)}), errFault)
		refuses(t, s, ins(api.Insn{Op: c.op, Dst: 10, Off: -513}), errFault)
		refuses(t, s, ins(api.Insn{Op: c.op, Dst: 10, Off: 1 - int16(c.size)}), errFault)
		refuses(t, reg(s, 3, stack(far)), ins(api.Insn{Op: c.op, Dst: 3, Off: 8}), errFault)
		if c.size > 1 {
			refuses(t, s, ins(api.Insn{Op: c.op, Dst: 10, Off: -511}), errAlign)
			refuses(t, s, ins(api.Insn{Op: c.op, Dst: 10, Off: -1 - int16(c.size)}), errAlign)
		}
		on(t, reg(s, 3, stack(-8)), ins(api.Insn{Op: c.op, Dst: 3, Off: 8 + 16, Imm: 9}), slot(reg(s, 3, stack(-8)), 2, map[bool]api.Val{true: of(9)}[c.size == 8], uint8(1<<c.size-1)))
	}
}

// P14.3: a register to the stack: of eight bytes whatever it is, of fewer a number.
func TestPutToStack(t *testing.T) {
	for _, v := range append(all(), stack(512)) {
		s := reg(busy(), 4, v)
		x := func(c sized, off int) []api.Insn {
			return ins(api.Insn{Op: c.op, Dst: 10, Src: 4, Off: int16(off)})
		}
		for _, c := range puts() {
			switch {
			case c.size == 8:
				on(t, s, x(c, -8), slot(s, 63, v, 255))
				on(t, s, x(c, -512), slot(s, 0, v, 255))
				refuses(t, s, x(c, 0), errFault)
				refuses(t, s, x(c, -12), errAlign)
			case v.Kind == 1:
				on(t, s, x(c, -8), slot(s, 63, none(), 255))
				on(t, s, x(c, -512), slot(s, 0, none(), 1<<c.size-1))
				on(t, s, x(c, -512+c.size), slot(s, 0, none(), (1<<c.size-1)<<c.size))
				refuses(t, s, x(c, 0), errFault)
			default:
				// That it is no number is told ahead of what layer 13's Put would tell.
				refuses(t, s, x(c, -8), errPointer)
				refuses(t, s, x(c, 0), errPointer)
				refuses(t, s, x(c, -513), errPointer)
				refuses(t, s, x(c, -511), errPointer)
			}
		}
	}
	on(t, busy(), ins(api.Insn{Op: 123, Dst: 10, Src: 10, Off: -8}), slot(busy(), 63, stack(512), 255))
	on(t, busy(), ins(api.Insn{Op: 123, Dst: 2, Src: 2, Off: 8}), slot(busy(), 63, stack(496), 255))
}

// P14.3: an Atom on the stack: of a number, that is any number behind it.
func TestAtomOnStack(t *testing.T) {
	for _, imm := range []int32{0, 64, 80, 160} {
		for _, v := range numbers() {
			s := reg(busy(), 4, v)
			x := func(op uint8, off int16) []api.Insn {
				return ins(api.Insn{Op: op, Dst: 10, Src: 4, Off: off, Imm: imm})
			}
			on(t, s, x(219, -8), slot(s, 63, anything(), 255))
			on(t, s, x(195, -8), slot(s, 63, none(), 255))
			on(t, s, x(195, -12), slot(s, 62, none(), 255))
			on(t, s, x(219, -56), s)
			on(t, s, x(219, -64), slot(s, 56, anything(), 255))
			on(t, s, x(219, -80), slot(s, 54, anything(), 255))
			on(t, s, x(195, -84), s)
			for _, off := range []int16{-16, -24, -32, -40, -48} {
				refuses(t, s, x(219, off), errPointer)
				on(t, s, x(195, off), slot(s, 64+int(off)/8, none(), 255))
			}
			refuses(t, s, x(195, -88), errBlank)
			refuses(t, s, x(219, -88), errBlank)
			refuses(t, s, x(219, -512), errBlank)
			refuses(t, s, x(219, -516), errFault)
			refuses(t, s, x(195, 0), errFault)
			refuses(t, s, x(219, -4), errFault)
			refuses(t, s, x(219, -12), errAlign)
			refuses(t, s, x(195, -10), errAlign)
		}
	}
	on(t, reg(busy(), 3, stack(500)), ins(api.Insn{Op: 219, Dst: 3, Src: 0, Off: 4}), slot(reg(busy(), 3, stack(500)), 63, anything(), 255))
}
