package walk_test

import (
	"math"
	"slices"
	"testing"

	"hackle/api"
	"hackle/walk"
)

// exit is the end of a program.
var exit = api.Insn{Op: 149}

// place is where the instruction that is asked about begins.
const place = 3

// laid is a program with an instruction at that place, a Number and an Exit ahead of it and Exits behind it.
func laid(x ...api.Insn) []api.Insn {
	return slices.Concat([]api.Insn{{Op: 24, Dst: 5, Imm: 1}, {Imm: 2}, exit}, x, []api.Insn{exit, exit, exit})
}

// way is a way.
func way(at int, s api.State) api.Way { return api.Way{At: at, S: s} }

// goes asks where a program goes from an instruction, and what is known there.
func goes(t *testing.T, s api.State, x []api.Insn, want ...api.Way) {
	t.Helper()
	w, e := walk.Step(laid(x...), given(), place, s)
	if e != 0 || !slices.Equal(w, want) {
		t.Errorf("%v of %v: error %d, %d ways, the same: %t; want %d ways%s", x, s.Regs, e, len(w), slices.Equal(w, want), len(want), unlike(w, want))
	}
}

// unlike tells the first register in which two lists of ways differ.
func unlike(got, want []api.Way) string {
	for i := range min(len(got), len(want)) {
		if got[i].At != want[i].At {
			return ": a way goes elsewhere"
		}
		for n, v := range got[i].S.Regs {
			if v != want[i].S.Regs[n] {
				return ": register " + string(rune('0'+n)) + " is unlike"
			}
		}
	}
	return ""
}

// on asks for the one way to the next instruction, with s there.
func on(t *testing.T, ahead api.State, x []api.Insn, s api.State) {
	t.Helper()
	goes(t, ahead, x, way(place+len(x), s))
}

// becomes asks for the one way to the next instruction, with v in Dst, and all else as it was; and of Result for v.
func becomes(t *testing.T, s api.State, x []api.Insn, v api.Val) {
	t.Helper()
	on(t, s, x, reg(s, int(x[0].Dst), v))
	w, _ := walk.Step(laid(x...), given(), place, s)
	if got, ok := walk.Result(laid(x...), place, w); !ok || got != v {
		t.Errorf("%v of %v: Result is %v, %t; want %v", x, s.Regs, got, ok, v)
	}
}

// refuses asks for an error, and no way.
func refuses(t *testing.T, s api.State, x []api.Insn, want api.Errno) {
	t.Helper()
	w, e := walk.Step(laid(x...), given(), place, s)
	if e != want || len(w) != 0 {
		t.Errorf("%v of %v: error %d, %d ways; want error %d", x, s.Regs, e, len(w), want)
	}
	if v, ok := walk.Result(laid(x...), place, w); ok || v != none() {
		t.Errorf("%v of %v: Result is %v, %t; want none", x, s.Regs, v, ok)
	}
}

// ins is a list of instructions.
func ins(x ...api.Insn) []api.Insn { return x }

// The chapter's examples.
func TestExamples(t *testing.T) {
	on(t, first(), ins(api.Insn{Op: 0xbf, Dst: 6, Src: 1}), reg(first(), 6, ctx(0)))
	refuses(t, first(), ins(exit), errUnset)
	l, g := ins(api.Insn{Op: 0x79, Src: 1, Off: 60}, exit), api.Given{Ctx: 64}
	if w, e := walk.Step(l, g, 0, first()); len(w) != 0 || e != errFault {
		t.Errorf("Load of 8 bytes at 60 of 64: %d ways, %d", len(w), e)
	}
}

// P14.1: Right, of how many bytes, and of maps.
func TestRight(t *testing.T) {
	numbered, hash := api.Def{Key: 4, Val: 8, Max: 1}, api.Def{Hash: true, Key: 16, Val: 64, Max: 16}
	for _, defs := range [][]api.Def{nil, {}, {numbered}, {hash, numbered}, slices.Repeat([]api.Def{hash}, 8)} {
		for _, n := range []int{0, 1, 20, 63, 64} {
			if !walk.Right(api.Given{Defs: defs, Ctx: n}) {
				t.Errorf("%v, %d bytes: not right", defs, n)
			}
		}
		for _, n := range []int{-1, 65, 66, 128, 256, 1024, -64, math.MinInt, math.MaxInt, 1 << 32, -1 << 32, 1<<32 + 1} {
			if walk.Right(api.Given{Defs: defs, Ctx: n}) {
				t.Errorf("%v, %d bytes: right", defs, n)
			}
		}
	}
	for _, defs := range wrongDefs() {
		for _, n := range []int{-1, 0, 20, 64, 65} {
			if walk.Right(api.Given{Defs: defs, Ctx: n}) {
				t.Errorf("%v, %d bytes: right", defs, n)
			}
		}
	}
}

// wrongDefs are maps that may not be.
func wrongDefs() [][]api.Def {
	right := api.Def{Key: 4, Val: 8, Max: 1}
	return [][]api.Def{
		{{}}, {right, {}}, slices.Repeat([]api.Def{right}, 9), {{Key: 3, Val: 8, Max: 1}}, {{Hash: true, Key: 0, Val: 8, Max: 1}}, {{Hash: true, Key: 17, Val: 8, Max: 1}},
		{right, {Key: 4, Val: 9, Max: 1}}, {{Key: 4, Val: 72, Max: 1}}, {{Key: 4, Val: 0, Max: 1}}, {{Key: 4, Val: 8, Max: 0}}, {{Key: 4, Val: 8, Max: 17}},
	}
}

// asks asks Step for an error or none.
func asks(t *testing.T, l []api.Insn, g api.Given, at int, s api.State, want api.Errno) {
	t.Helper()
	w, e := walk.Step(l, g, at, s)
	if e != want || (want != 0) != (len(w) == 0) {
		t.Errorf("Step of %v at %d: %d ways, error %d; want error %d", l, at, len(w), e, want)
	}
}

// mov is an instruction that may always be done.
var mov = api.Insn{Op: 183}

// P14.1: ErrArg of what is no program, wherever its fault is.
func TestOfNoProgram(t *testing.T) {
	for _, l := range [][]api.Insn{
		nil, {}, ins(mov), ins(mov, api.Insn{Op: 24}), ins(mov, api.Insn{}, exit), ins(mov, api.Insn{Op: 5, Off: 9}, exit), ins(mov, exit, api.Insn{Op: 21}), ins(mov, api.Insn{Op: 183, Dst: 10}, exit),
		ins(mov, api.Insn{Op: 191, Src: 11}, exit), ins(mov, exit, api.Insn{Op: 5, Off: -4}), slices.Repeat(ins(mov, exit), 257), ins(mov, api.Insn{Op: 24}, exit, mov), ins(mov, exit, mov), ins(mov, api.Insn{Op: 24, Src: 2}, api.Insn{}, exit),
	} {
		for at := -1; at <= len(l); at++ {
			asks(t, l, given(), at, busy(), errArg)
		}
	}
	asks(t, slices.Repeat(ins(mov, exit), 256), given(), 510, busy(), 0)
	room := ins(mov, exit, mov)
	asks(t, room[:2], given(), 0, busy(), 0)
	asks(t, room[:2], given(), 2, busy(), errArg)
	asks(t, room[:1], given(), 0, busy(), errArg)
}

// P14.1: ErrArg of what a program may not be given.
func TestOfWrongGiven(t *testing.T) {
	for _, g := range []api.Given{{}, {Ctx: 64}, given()} {
		asks(t, ins(mov, exit), g, 0, busy(), 0)
	}
	for _, g := range []api.Given{{Ctx: -1}, {Ctx: 65}, {Ctx: math.MinInt}, {Ctx: math.MaxInt}} {
		asks(t, ins(mov, exit), g, 0, busy(), errArg)
	}
	for _, defs := range wrongDefs() {
		asks(t, ins(mov, exit), api.Given{Defs: defs, Ctx: 20}, 0, busy(), errArg)
	}
	room := append(given().Defs, api.Def{})
	asks(t, ins(mov, exit), api.Given{Defs: room[:2]}, 0, busy(), 0)
	asks(t, ins(mov, exit), api.Given{Defs: room}, 0, busy(), errArg)
}

// P14.1: ErrArg of a place at which no instruction begins.
func TestOfWrongPlace(t *testing.T) {
	l := ins(mov, api.Insn{Op: 24}, api.Insn{Imm: 5}, mov, api.Insn{Op: 24, Src: 1}, api.Insn{}, mov, exit)
	for at := range l {
		want := api.Errno(0)
		if at == 2 || at == 5 {
			want = errArg
		}
		if at < 7 {
			asks(t, l, given(), at, busy(), want)
		}
	}
	for _, at := range []int{-1, -2, 8, 9, 512, math.MinInt, math.MaxInt, 1 << 32, -1 << 32} {
		asks(t, l, given(), at, busy(), errArg)
	}
}

// P14.1: ErrArg of states that are not right, or whose register 10 is not where the stack ends.
func TestOfWrongState(t *testing.T) {
	for _, v := range wrongVals() {
		for i := range regs {
			asks(t, ins(mov, exit), given(), 0, reg(busy(), i, v), errArg)
		}
		for _, i := range []int{0, 1, 31, 62, 63} {
			asks(t, ins(mov, exit), given(), 0, slot(first(), i, v, 255), errArg)
		}
	}
	for _, put := range []uint8{0, 1, 127, 254} {
		asks(t, ins(mov, exit), given(), 0, slot(first(), 0, of(1), put), errArg)
		asks(t, ins(mov, exit), given(), 0, slot(first(), 63, none(), put), 0)
	}
	for _, v := range append(all(), none(), stack(512)) {
		want := api.Errno(errArg)
		if v == stack(512) {
			want = 0
		}
		asks(t, ins(mov, exit), given(), 0, reg(busy(), 10, v), want)
		asks(t, ins(mov, exit), given(), 0, reg(first(), 10, v), want)
	}
	asks(t, ins(mov, exit), given(), 0, api.State{}, errArg)
	for _, v := range []api.Val{stack(511), stack(513), stack(-512), stack(0), ctx(512), in(0, 512), of(512)} {
		asks(t, ins(mov, exit), given(), 0, reg(first(), 10, v), errArg)
	}
}

// P14.1: ErrArg is told ahead of what the instruction would tell.
func TestErrArgIsAhead(t *testing.T) {
	asks(t, ins(exit, exit), given(), 0, first(), errUnset)
	asks(t, ins(exit, mov), given(), 0, first(), errArg)
	asks(t, ins(exit, exit), given(), 0, reg(first(), 10, none()), errArg)
	asks(t, ins(exit, exit), api.Given{Ctx: 65}, 0, first(), errArg)
	asks(t, ins(exit, exit), given(), 2, first(), errArg)
}

// reading is an instruction, and the registers that it reads.
type reading struct {
	x    []api.Insn
	regs []int
}

// readings are instructions of each kind, with what they read: Dst is 3, Src 4.
func readings() []reading {
	l := []reading{{ins(api.Insn{Op: 24, Dst: 3, Imm: 1}, api.Insn{Imm: 1}), nil}, {ins(api.Insn{Op: 24, Dst: 3, Src: 1}, api.Insn{}), nil}, {ins(api.Insn{Op: 5}), nil}, {ins(api.Insn{Op: 6, Imm: 1}), nil}, {ins(exit), []int{0}}}
	add := func(x api.Insn, regs ...int) { l = append(l, reading{ins(x), regs}) }
	for _, op := range []uint8{0x00, 0x10, 0x20, 0x30, 0x40, 0x50, 0x60, 0x70, 0x90, 0xa0, 0xb0, 0xc0} {
		for _, class := range []uint8{4, 7} {
			if op == 0xb0 {
				add(api.Insn{Op: op | class, Dst: 3})
				add(api.Insn{Op: op | class | 8, Dst: 3, Src: 4}, 4)
				add(api.Insn{Op: op | class | 8, Dst: 3, Src: 4, Off: 8}, 4)
				continue
			}
			add(api.Insn{Op: op | class, Dst: 3}, 3)
			add(api.Insn{Op: op | class | 8, Dst: 3, Src: 4}, 3, 4)
		}
	}
	for _, op := range []uint8{0x84, 0x87} {
		add(api.Insn{Op: op, Dst: 3}, 3)
	}
	for _, op := range []uint8{212, 220, 215} {
		add(api.Insn{Op: op, Dst: 3, Imm: 32}, 3)
	}
	for _, op := range []uint8{97, 105, 113, 121, 129, 137, 145} {
		add(api.Insn{Op: op, Dst: 3, Src: 4, Off: 1}, 4)
	}
	for i, op := range []uint8{98, 106, 114, 122} {
		add(api.Insn{Op: op, Dst: 3, Off: 1}, 3)
		add(api.Insn{Op: op + 1, Dst: 3, Src: 4, Off: 1}, 3, 4)
		add(api.Insn{Op: []uint8{195, 219}[i%2], Dst: 3, Src: 4, Off: 1, Imm: []int32{0, 64, 80, 160}[i]}, 3, 4)
	}
	for _, op := range []uint8{0x10, 0x20, 0x30, 0x40, 0x50, 0x60, 0x70, 0xa0, 0xb0, 0xc0, 0xd0} {
		for _, class := range []uint8{5, 6} {
			add(api.Insn{Op: op | class, Dst: 3, Off: 1}, 3)
			add(api.Insn{Op: op | class | 8, Dst: 3, Src: 4, Off: 1}, 3, 4)
		}
	}
	return l
}

// P14.1: what is read must be set, ahead of all else; what is not may be unset.
func TestUnset(t *testing.T) {
	for _, c := range readings() {
		for _, v := range append(all(), stack(512)) {
			s := api.State{}
			for i := range 10 {
				s.Regs[i] = v
			}
			s.Regs[10] = stack(512)
			for i := range 10 {
				_, e := walk.Step(laid(c.x...), given(), place, reg(s, i, none()))
				if (e == errUnset) != slices.Contains(c.regs, i) {
					t.Fatalf("%v of registers %v, without register %d: error %d", c.x, v, i, e)
				}
			}
			if _, e := walk.Step(laid(c.x...), given(), place, s); e == errUnset {
				t.Fatalf("%v of registers %v: ErrUnset", c.x, v)
			}
			for _, i := range c.regs {
				refuses(t, reg(first(), i, none()), c.x, errUnset)
			}
		}
	}
}

// P14.1: what is handed in stays, and what is answered is new: asked again, it is the same.
func TestMemoryIsTheCallers(t *testing.T) {
	for _, c := range readings() {
		l, g, s := laid(c.x...), given(), busy()
		w, e := walk.Step(l, g, place, s)
		again := slices.Clone(w)
		for i := range w {
			w[i] = api.Way{At: 99}
		}
		other, otherE := walk.Step(l, g, place, s)
		if !slices.Equal(other, again) || otherE != e || !slices.Equal(l, laid(c.x...)) || !slices.Equal(g.Defs, given().Defs) || g.Ctx != 20 || s != busy() {
			t.Errorf("%v answers otherwise when it is asked again, or changes what it is handed", c.x)
		}
		if _, ok := walk.Result(l, place, other); ok && (!slices.Equal(other, again) || !slices.Equal(l, laid(c.x...))) {
			t.Errorf("Result of %v changes what it is handed", c.x)
		}
	}
}

// P14.6: Result, of each kind of instruction, with ways that Step told.
func TestResult(t *testing.T) {
	for _, c := range readings() {
		s := busy()
		s.Regs[3], s.Regs[4] = of(6), of(2)
		switch c.x[0].Op & 7 {
		case 1, 2, 3:
			s.Regs[3], s.Regs[4] = stack(439), of(2)
			if c.x[0].Op&7 == 1 {
				s.Regs[4] = stack(439)
			}
		}
		w, e := walk.Step(laid(c.x...), given(), place, s)
		if e != 0 {
			t.Errorf("%v: error %d", c.x, e)
			continue
		}
		want := c.x[0].Op != 149 && c.x[0].Op&7 != 5 && c.x[0].Op&7 != 6 && c.x[0].Op&7 != 2 && c.x[0].Op&7 != 3
		v, ok := walk.Result(laid(c.x...), place, w)
		if ok != want || !ok && v != none() || ok && v != w[0].S.Regs[3] {
			t.Errorf("%v: Result is %v, %t; want %t", c.x, v, ok, want)
		}
		if v, ok := walk.Result(laid(c.x...), place, nil); ok || v != none() {
			t.Errorf("%v: Result of no way is %v, %t", c.x, v, ok)
		}
	}
}

// P14.6: Result, where no instruction begins, of what is no program, of any ways: it always ends, and the first way is the one that is asked.
func TestResultOfAnything(t *testing.T) {
	w := []api.Way{way(1, reg(busy(), 3, of(41))), way(2, reg(busy(), 3, of(42)))}
	l := laid(api.Insn{Op: 183, Dst: 3}, api.Insn{Op: 24, Dst: 3}, api.Insn{Imm: 9}, api.Insn{Op: 133, Imm: 5})
	for _, at := range []int{-1, 1, 2, 5, 6, 7, 8, 9, 10, 512, math.MinInt, math.MaxInt, 1 << 32} {
		if v, ok := walk.Result(l, at, w); ok || v != none() {
			t.Errorf("Result at %d is %v, %t", at, v, ok)
		}
	}
	for _, at := range []int{3, 4} {
		if v, ok := walk.Result(l, at, w); !ok || v != of(41) {
			t.Errorf("Result at %d is %v, %t", at, v, ok)
		}
	}
	for _, x := range []api.Insn{{Op: 183, Dst: 10}, {Op: 183, Dst: 11}, {Op: 183, Dst: 255}, {Op: 191, Dst: 3, Src: 200}, {Op: 0}, {Op: 24, Dst: 99}} {
		if v, ok := walk.Result(ins(x, x), 0, w); ok || v != none() {
			t.Errorf("Result of %v is %v, %t", x, v, ok)
		}
	}
	if v, ok := walk.Result(ins(api.Insn{Op: 24}, mov), 1, w); ok || v != none() {
		t.Errorf("Result where no instruction begins is %v, %t", v, ok)
	}
	if v, ok := walk.Result(ins(mov)[:0], 0, w); ok || v != none() {
		t.Errorf("Result of no instructions is %v, %t", v, ok)
	}
	if v, ok := walk.Result(nil, 0, nil); ok || v != none() {
		t.Errorf("Result of nothing is %v, %t", v, ok)
	}
}
