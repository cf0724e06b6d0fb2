package code_test

import (
	"bytes"
	"math"
	"math/rand/v2"
	"slices"
	"testing"

	"hackle/api"
	"hackle/code"
	"hackle/insn"
)

// Instructions that tests put together, and some that are none.
var (
	mov   = api.Insn{Op: 183, Imm: 1}
	exit  = api.Insn{Op: 149}
	call  = api.Insn{Op: 133, Imm: 7}
	load  = api.Insn{Op: 97, Src: 1, Off: -1}
	num   = api.Insn{Op: 24, Dst: 1, Imm: 5}
	half  = api.Insn{Imm: -6}
	table = api.Insn{Op: 24, Dst: 1, Src: 1, Imm: 5}
	blank = api.Insn{}
	bad   = api.Insn{Op: 183, Dst: 10}
)

// jump jumps, by its Off.
func jump(by int16) api.Insn { return api.Insn{Op: 5, Off: by} }

// far jumps, by its Imm.
func far(by int32) api.Insn { return api.Insn{Op: 6, Imm: by} }

// branch jumps maybe; its Imm must not matter for where.
func branch(by int16) api.Insn { return api.Insn{Op: 21, Dst: 10, Off: by, Imm: 1} }

// list is instructions as a list.
func list(l ...api.Insn) []api.Insn { return l }

// times is an instruction n times, and others behind it.
func times(n int, x api.Insn, more ...api.Insn) []api.Insn {
	return append(slices.Repeat(list(x), n), more...)
}

// rooms is l with things behind its length that would make another thing of it.
func rooms(l []api.Insn, behind ...api.Insn) []api.Insn {
	return append(slices.Clone(l), behind...)[:len(l)]
}

// laid is instructions as bytes, whether they are a program or not.
func laid(l []api.Insn) []byte {
	var b []byte
	for _, x := range l {
		p, _ := insn.Put(x)
		b = append(b, p...)
	}
	return b
}

// programs are such.
var programs = [][]api.Insn{
	list(exit),
	list(mov, exit),
	list(jump(-1)),
	list(far(-1)),
	list(mov, jump(-2)),
	list(mov, far(-2)),
	list(num, half, exit),
	list(num, blank, exit),
	list(num, api.Insn{Imm: math.MinInt32}, exit),
	list(table, blank, exit),
	list(num, half, table, blank, num, half, exit),
	list(exit, exit),
	list(jump(0), exit),
	list(jump(1), mov, exit),
	list(far(1), mov, exit),
	list(branch(0), exit),
	list(branch(-1), exit),
	list(mov, branch(-2), exit),
	list(branch(1), mov, exit),
	list(branch(2), num, half, exit),
	list(branch(0), num, half, exit),
	list(num, half, branch(-3), exit),
	list(num, half, jump(-3)),
	list(exit, load, call, jump(-4)),
	times(512, exit),
	times(510, mov, jump(0), exit),
	append(list(jump(510)), times(510, mov, exit)...),
	append(list(far(510)), times(510, mov, exit)...),
	times(511, mov, jump(-512)),
	times(511, mov, far(-512)),
	append(times(509, mov), num, half, exit),
}

// wrongs are lists that are no programs, with where and why.
var wrongs = []struct {
	l []api.Insn
	i int
	e api.Errno
}{
	{nil, 0, api.ErrSize},
	{list(), 0, api.ErrSize},
	{times(513, exit), 0, api.ErrSize},
	{times(513, bad), 0, api.ErrSize},
	{times(2000, mov), 0, api.ErrSize},
	{list(bad), 0, api.ErrInsn},
	{list(blank), 0, api.ErrInsn},
	{list(mov, bad, bad, exit), 1, api.ErrInsn},
	{list(exit, bad), 1, api.ErrInsn},
	{times(511, exit, bad), 511, api.ErrInsn},
	{list(mov, half, exit), 1, api.ErrInsn},
	{list(mov, blank, exit), 1, api.ErrInsn},
	{list(api.Insn{Op: 5, Imm: 1}, exit), 0, api.ErrInsn},
	{list(api.Insn{Op: 183, Dst: 16}, exit), 0, api.ErrInsn},
	{list(num), 0, api.ErrInsn},
	{list(table), 0, api.ErrInsn},
	{list(mov, num), 1, api.ErrInsn},
	{list(num, half, num), 2, api.ErrInsn},
	{list(num, num, half, exit), 0, api.ErrInsn},
	{list(num, exit), 0, api.ErrInsn},
	{list(num, exit, exit), 0, api.ErrInsn},
	{list(mov, num, api.Insn{Op: 1}, exit), 1, api.ErrInsn},
	{list(mov, num, api.Insn{Dst: 1}, exit), 1, api.ErrInsn},
	{list(mov, num, api.Insn{Src: 1}, exit), 1, api.ErrInsn},
	{list(mov, num, api.Insn{Off: 1}, exit), 1, api.ErrInsn},
	{list(mov, table, api.Insn{Imm: 1}, exit), 1, api.ErrInsn},
	{list(mov, table, api.Insn{Op: 1}, exit), 1, api.ErrInsn},
	{list(mov, table, api.Insn{Dst: 1}, exit), 1, api.ErrInsn},
	{list(mov, table, api.Insn{Src: 1}, exit), 1, api.ErrInsn},
	{list(mov, table, api.Insn{Off: 1}, exit), 1, api.ErrInsn},
	{list(num, half, half, exit), 2, api.ErrInsn},
	{list(api.Insn{Op: 24, Src: 2}, blank, exit), 0, api.ErrInsn},
	{list(num, half, table, half, exit), 2, api.ErrInsn},
	{list(jump(9), mov, bad, mov), 2, api.ErrInsn},
	{list(jump(9), num), 1, api.ErrInsn},
	{list(jump(1), exit), 0, api.ErrJump},
	{list(jump(-2), exit), 0, api.ErrJump},
	{list(far(1), exit), 0, api.ErrJump},
	{list(far(-2), exit), 0, api.ErrJump},
	{list(branch(1), exit), 0, api.ErrJump},
	{list(branch(-2), exit), 0, api.ErrJump},
	{list(jump(0)), 0, api.ErrJump},
	{list(jump(math.MaxInt16), exit), 0, api.ErrJump},
	{list(jump(math.MinInt16), exit), 0, api.ErrJump},
	{list(far(math.MaxInt32), exit), 0, api.ErrJump},
	{list(far(math.MinInt32), exit), 0, api.ErrJump},
	{list(far(math.MinInt32+1), exit), 0, api.ErrJump},
	{list(branch(math.MaxInt16), exit), 0, api.ErrJump},
	{list(mov, branch(-3), exit), 1, api.ErrJump},
	{list(mov, branch(1), exit), 1, api.ErrJump},
	{list(jump(1), num, half, exit), 0, api.ErrJump},
	{list(far(1), num, half, exit), 0, api.ErrJump},
	{list(branch(1), table, blank, exit), 0, api.ErrJump},
	{list(num, half, branch(-2), exit), 2, api.ErrJump},
	{list(num, half, jump(-2)), 2, api.ErrJump},
	{list(branch(0), branch(9), jump(9), exit), 1, api.ErrJump},
	{list(exit, jump(9), branch(9), exit), 1, api.ErrJump},
	{list(mov, jump(9), mov), 1, api.ErrJump},
	{list(mov, branch(0)), 1, api.ErrJump},
	{times(511, mov, jump(0)), 511, api.ErrJump},
	{times(511, mov, far(-513)), 511, api.ErrJump},
	{list(mov), 0, api.ErrEnd},
	{list(mov, mov), 1, api.ErrEnd},
	{list(exit, mov), 1, api.ErrEnd},
	{list(exit, call), 1, api.ErrEnd},
	{list(exit, load), 1, api.ErrEnd},
	{list(mov, branch(-2)), 1, api.ErrEnd},
	{list(branch(-1)), 0, api.ErrEnd},
	{list(num, half), 0, api.ErrEnd},
	{list(table, blank), 0, api.ErrEnd},
	{list(exit, num, half), 1, api.ErrEnd},
	{list(exit, num, half, table, blank), 3, api.ErrEnd},
	{list(num, half, mov), 2, api.ErrEnd},
	{times(511, exit, mov), 511, api.ErrEnd},
	{times(512, mov), 511, api.ErrEnd},
	{rooms(list(num), half, exit), 0, api.ErrInsn},
	{rooms(list(mov, jump(0)), exit), 1, api.ErrJump},
	{rooms(list(mov), exit), 0, api.ErrEnd},
	{rooms(nil, exit), 0, api.ErrSize},
}

// P7.2: programs are told as such, with no place.
func TestCheckOfPrograms(t *testing.T) {
	for n, l := range programs {
		if i, e := code.Check(l); i != 0 || e != api.OK {
			t.Errorf("%d: Check = %d, %d; want 0, OK", n, i, e)
		}
	}
}

// P7.2: the first error that applies, and where.
func TestCheckOfWrongs(t *testing.T) {
	for n, c := range wrongs {
		if i, e := code.Check(c.l); i != c.i || e != c.e {
			t.Errorf("%d: Check = %d, %d; want %d, %d", n, i, e, c.i, c.e)
		}
	}
}

// P7.2: Encode and Decode tell what Check tells, with nothing beside it.
func TestEncodeAndDecodeOfWrongs(t *testing.T) {
	for n, c := range wrongs {
		if b, i, e := code.Encode(c.l); len(b) != 0 || i != c.i || e != c.e {
			t.Errorf("%d: Encode = %v, %d, %d; want none, %d, %d", n, b, i, e, c.i, c.e)
		}
		if len(laid(c.l)) != 8*len(c.l) {
			continue // there are no such bytes
		}
		if l, i, e := code.Decode(laid(c.l)); len(l) != 0 || i != c.i || e != c.e {
			t.Errorf("%d: Decode = %v, %d, %d; want none, %d, %d", n, l, i, e, c.i, c.e)
		}
	}
}

// P7.2: registers that no byte holds are no reason for another error.
func TestEncodeOfGreatRegisters(t *testing.T) {
	for _, n := range []uint8{11, 15, 16, 17, 255} {
		for _, x := range []api.Insn{{Op: 183, Dst: n}, {Op: 191, Src: n}, {Op: 99, Dst: n}, {Op: 99, Src: n}} {
			if b, i, e := code.Encode(list(mov, x, exit)); len(b) != 0 || i != 1 || e != api.ErrInsn {
				t.Errorf("Encode with %v = %v, %d, %d; want none, 1, ErrInsn", x, b, i, e)
			}
		}
	}
}

// P7.2: the chapter's examples, and the bytes of other programs, by hand.
func TestDecodeAndEncodeByHand(t *testing.T) {
	for _, c := range []struct {
		b []byte
		l []api.Insn
	}{
		{[]byte{183, 0, 0, 0, 1, 0, 0, 0, 149, 0, 0, 0, 0, 0, 0, 0}, list(mov, exit)},
		{[]byte{149, 0, 0, 0, 0, 0, 0, 0}, list(exit)},
		{[]byte{5, 0, 255, 255, 0, 0, 0, 0}, list(jump(-1))},
		{[]byte{6, 0, 0, 0, 255, 255, 255, 255}, list(far(-1))},
		{[]byte{24, 1, 0, 0, 5, 0, 0, 0, 0, 0, 0, 0, 250, 255, 255, 255, 149, 0, 0, 0, 0, 0, 0, 0}, list(num, half, exit)},
		{[]byte{24, 17, 0, 0, 5, 0, 0, 0, 0, 0, 0, 0, 0, 0, 0, 0, 149, 0, 0, 0, 0, 0, 0, 0}, list(table, blank, exit)},
		{[]byte{21, 10, 1, 0, 1, 0, 0, 0, 97, 16, 255, 255, 0, 0, 0, 0, 149, 0, 0, 0, 0, 0, 0, 0}, list(branch(1), load, exit)},
		{[]byte{97, 16, 255, 255, 0, 0, 0, 0, 123, 170, 248, 255, 0, 0, 0, 0, 149, 0, 0, 0, 0, 0, 0, 0},
			list(load, api.Insn{Op: 123, Dst: 10, Src: 10, Off: -8}, exit)},
	} {
		l, i, e := code.Decode(c.b)
		if !slices.Equal(l, c.l) || i != 0 || e != api.OK {
			t.Errorf("Decode(%v) = %v, %d, %d; want %v, 0, OK", c.b, l, i, e, c.l)
		}
		if b, i, e := code.Encode(c.l); !bytes.Equal(b, c.b) || i != 0 || e != api.OK {
			t.Errorf("Encode(%v) = %v, %d, %d; want %v, 0, OK", c.l, b, i, e, c.b)
		}
	}
	if l, i, e := code.Decode([]byte{183, 0, 0, 0, 1, 0, 0, 0}); len(l) != 0 || i != 0 || e != api.ErrEnd {
		t.Errorf("Decode of Mov alone = %v, %d, %d; want none, 0, ErrEnd", l, i, e)
	}
}

// P7.2: so many bytes are a program, or none, whatever stands in the room behind them.
func TestDecodeOfSizes(t *testing.T) {
	room := laid(times(600, exit))
	for n := range len(room) + 1 {
		l, i, e := code.Decode(room[:n])
		if n > 0 && n <= 4096 && n%8 == 0 {
			if !slices.Equal(l, times(n/8, exit)) || i != 0 || e != api.OK {
				t.Fatalf("Decode of %d bytes = %d instructions, %d, %d; want OK", n, len(l), i, e)
			}
			continue
		}
		if len(l) != 0 || i != 0 || e != api.ErrSize {
			t.Fatalf("Decode of %d bytes = %d instructions, %d, %d; want none, 0, ErrSize", n, len(l), i, e)
		}
	}
	if l, i, e := code.Decode(nil); len(l) != 0 || i != 0 || e != api.ErrSize {
		t.Errorf("Decode(nil) = %v, %d, %d; want none, 0, ErrSize", l, i, e)
	}
	if l, i, e := code.Decode(append(laid(list(bad, bad)), 0)); len(l) != 0 || i != 0 || e != api.ErrSize {
		t.Errorf("Decode of 17 bytes = %v, %d, %d; want none, 0, ErrSize", l, i, e)
	}
}

// P7.2: what is answered is the caller's, what is handed in stays.
func TestMemoryIsTheCallers(t *testing.T) {
	l := list(num, half, branch(-3), exit)
	b, _, _ := code.Encode(l)
	was := bytes.Clone(b)
	k, _, _ := code.Decode(b)
	clear(b)
	if !slices.Equal(k, l) {
		t.Errorf("what was decoded became %v with its bytes", k)
	}
	clear(k)
	if b, _, _ = code.Encode(l); !bytes.Equal(b, was) {
		t.Errorf("Encode = %v behind a change of earlier answers; want %v", b, was)
	}
	s := code.Starts(l)
	clear(s)
	if s = code.Starts(l); !slices.Equal(s, []bool{true, false, true, true}) {
		t.Errorf("Starts = %v behind a change of an earlier answer", s)
	}
	for _, c := range wrongs {
		was := slices.Clone(c.l)
		b := laid(c.l)
		wasBytes := bytes.Clone(b)
		askAll(c.l)
		code.Decode(b)
		if !slices.Equal(c.l, was) || !bytes.Equal(b, wasBytes) {
			t.Errorf("what was handed in became %v, %v", c.l, b)
		}
	}
}

// askAll asks all calls of a list.
func askAll(l []api.Insn) {
	code.Check(l)
	code.Encode(l)
	code.Starts(l)
	for i := -2; i < len(l)+3; i++ {
		code.Next(l, i)
		code.Target(l, i)
	}
}

// P7.3: instructions begin behind those that do, whether they are some or not.
func TestStarts(t *testing.T) {
	for _, c := range []struct {
		l    []api.Insn
		want []bool
	}{
		{nil, nil},
		{list(), nil},
		{rooms(nil, exit), nil},
		{list(exit), []bool{true}},
		{list(bad, blank, mov), []bool{true, true, true}},
		{list(num), []bool{true}},
		{list(num, half), []bool{true, false}},
		{list(table, blank, exit), []bool{true, false, true}},
		{list(mov, num, half, num, half, exit), []bool{true, true, false, true, false, true}},
		{list(num, num, num, num), []bool{true, false, true, false}},
		{list(num, num, num), []bool{true, false, true}},
		{list(mov, num, num, exit), []bool{true, true, false, true}},
		{list(num, exit, num), []bool{true, false, true}},
		{list(api.Insn{Op: 24, Dst: 99, Src: 9, Off: 1}, exit, exit), []bool{true, false, true}},
		{list(api.Insn{Op: 16}, exit, api.Insn{Op: 56}, exit), []bool{true, true, true, true}},
		{rooms(list(exit, num), half), []bool{true, true}},
		{list(jump(5), exit, jump(-9)), []bool{true, true, true}},
	} {
		if s := code.Starts(c.l); !slices.Equal(s, c.want) {
			t.Errorf("Starts(%v) = %v; want %v", c.l, s, c.want)
		}
	}
	if s := code.Starts(times(3000, exit)); !slices.Equal(s, slices.Repeat([]bool{true}, 3000)) {
		t.Errorf("Starts of 3000 Exits = %v", s)
	}
}

// P7.3: the next one is one or two places on, of a place; else there is none.
func TestNext(t *testing.T) {
	l := list(mov, num, half, num, num, bad, exit, jump(-5), num)
	for i, want := range []int{1, 3, 3, 5, 6, 6, 7, 8, 10} {
		if n := code.Next(l, i); n != want {
			t.Errorf("Next(l, %d) = %d; want %d", i, n, want)
		}
	}
	for _, i := range []int{-1, -2, len(l), len(l) + 1, math.MinInt, math.MaxInt, 1 << 32, -1 << 32} {
		if n := code.Next(l, i); n != -1 {
			t.Errorf("Next(l, %d) = %d; want -1", i, n)
		}
	}
	for _, l := range [][]api.Insn{nil, list(), rooms(nil, exit)} {
		for i := -1; i < 2; i++ {
			if n := code.Next(l, i); n != -1 {
				t.Errorf("Next of none, %d = %d; want -1", i, n)
			}
		}
	}
	if n := code.Next(rooms(list(exit), exit), 1); n != -1 {
		t.Errorf("Next behind the length = %d; want -1", n)
	}
	if n := code.Next(times(3000, exit), 2999); n != 3000 {
		t.Errorf("Next of the last of 3000 = %d; want 3000", n)
	}
}

// P7.3: where Jumps and Branches jump to, if there is such a place.
func TestTarget(t *testing.T) {
	for n, c := range []struct {
		l    []api.Insn
		i    int
		want int
		ok   bool
	}{
		{list(jump(-1)), 0, 0, true},
		{list(far(-1)), 0, 0, true},
		{list(branch(-1)), 0, 0, true},
		{list(jump(0), exit), 0, 1, true},
		{list(mov, mov, jump(-3)), 2, 0, true},
		{list(mov, mov, far(-2)), 2, 1, true},
		{list(branch(2), mov, mov, exit), 0, 3, true},
		{list(api.Insn{Op: 222, Dst: 1, Src: 2, Off: 1}, mov, exit), 0, 2, true},
		{list(jump(1), num, half, exit), 0, 2, true},
		{list(mov, bad, jump(-2)), 2, 1, true},
		{list(num, jump(0), exit), 1, 2, true},
		{list(jump(0)), 0, 0, false},
		{list(jump(-2)), 0, 0, false},
		{list(far(0)), 0, 0, false},
		{list(far(-2)), 0, 0, false},
		{list(branch(0)), 0, 0, false},
		{list(mov, branch(-3), exit), 1, 0, false},
		{list(mov, jump(1), exit), 1, 0, false},
		{list(far(math.MaxInt32), exit), 0, 0, false},
		{list(far(math.MinInt32), exit), 0, 0, false},
		{list(far(1<<16), exit), 0, 0, false},
		{list(jump(-1), exit), 1, 0, false},
		{list(jump(-1), exit), -1, 0, false},
		{list(jump(-1), exit), 2, 0, false},
		{list(jump(-1), exit), math.MinInt, 0, false},
		{list(jump(-1), exit), math.MaxInt, 0, false},
		{rooms(list(jump(0)), exit), 0, 0, false},
		{rooms(list(exit), jump(-2)), 1, 0, false},
		{nil, 0, 0, false},
		{list(api.Insn{Op: 5, Off: 0, Imm: 1}, exit, exit), 0, 0, false},
		{list(api.Insn{Op: 6, Off: 1}, exit, exit), 0, 0, false},
		{list(api.Insn{Op: 21, Dst: 11}, exit, exit), 0, 0, false},
		{list(api.Insn{Op: 21, Src: 1}, exit, exit), 0, 0, false},
		{list(api.Insn{Op: 13}, exit, exit), 0, 0, false},
		{list(api.Insn{Op: 229}, exit, exit), 0, 0, false},
		{list(mov, exit, exit), 0, 0, false},
		{list(load, exit, exit), 0, 0, false},
		{list(api.Insn{Op: 55, Off: 1}, exit, exit), 0, 0, false},
		{list(api.Insn{Op: 212, Imm: 16}, exit), 0, 0, false},
		{list(num, half, exit), 0, 0, false},
		{list(num, half, exit), 1, 0, false},
		{list(table, blank, exit), 0, 0, false},
		{list(api.Insn{Op: 98, Off: 1}, exit, exit), 0, 0, false},
		{list(api.Insn{Op: 99, Off: 1}, exit, exit), 0, 0, false},
		{list(api.Insn{Op: 195, Off: 1}, exit, exit), 0, 0, false},
		{list(api.Insn{Op: 133, Imm: 1}, exit, exit), 0, 0, false},
		{list(mov, exit, exit), 1, 0, false},
	} {
		if to, ok := code.Target(c.l, c.i); to != c.want || ok != c.ok {
			t.Errorf("%d: Target(%v, %d) = %d, %t; want %d, %t", n, c.l, c.i, to, ok, c.want, c.ok)
		}
	}
}

// P7.3: jumps as far as there are, in a list that is too long for a program.
func TestTargetFarOff(t *testing.T) {
	l := times(70000, exit)
	for _, c := range []struct {
		x        api.Insn
		i, wants int
	}{
		{jump(math.MaxInt16), 5, 32773}, {jump(math.MinInt16), 40000, 7233}, {branch(math.MaxInt16), 0, 32768}, {branch(math.MinInt16), 32767, 0},
		{far(69998), 0, 69999}, {far(-70000), 69999, 0}, {far(65536), 1, 65538}, {far(-65536), 69999, 4464},
	} {
		l[c.i] = c.x
		if to, ok := code.Target(l, c.i); to != c.wants || !ok {
			t.Errorf("Target of %v at %d = %d, %t; want %d", c.x, c.i, to, ok, c.wants)
		}
		l[c.i] = exit
	}
}

// some is one of these.
func some[T interface{ ~int16 | ~int32 | ~uint8 }](r *rand.Rand, of []T) T {
	return of[r.IntN(len(of))]
}

// someInsn is an instruction, most often one that is one, with a jump that maybe lands among n.
func someInsn(r *rand.Rand, n int) api.Insn {
	for {
		x := api.Insn{Op: uint8(r.IntN(256)), Dst: uint8(r.IntN(11)), Src: uint8(r.IntN(11))}
		switch r.IntN(3) {
		case 0:
			x.Imm, x.Off = some(r, someImms), int16(r.IntN(2*n+1)-n)
		case 1:
			x.Imm = int32(r.IntN(2*n+1) - n)
		case 2:
			x.Off = int16(r.IntN(2*n+1) - n)
		}
		if r.IntN(3) == 0 {
			x.Dst, x.Src = 0, 0
		}
		if _, ok := wantWhat(x); ok || r.IntN(2000) == 0 {
			return x
		}
	}
}

// someList is a list of instructions that is sometimes a program.
func someList(r *rand.Rand) []api.Insn {
	n := 1 + r.IntN(12)
	var l []api.Insn
	for len(l) < n {
		x := someInsn(r, n)
		l = append(l, x)
		if x.Op == 24 && r.IntN(20) != 0 {
			h := api.Insn{}
			if x.Src == 0 || r.IntN(20) == 0 {
				h.Imm = some(r, someImms)
			}
			l = append(l, h)
		}
	}
	if r.IntN(8) != 0 {
		l = append(l, exit)
	}
	return l
}

// wantStarts is the places at which instructions begin.
func wantStarts(l []api.Insn) map[int]bool {
	at := map[int]bool{}
	for i := 0; i < len(l); i++ {
		at[i] = true
		if l[i].Op == 24 {
			i++
		}
	}
	return at
}

// wantTarget is where what is at i jumps to, wherever that is, and whether it jumps.
func wantTarget(l []api.Insn, i int) (int, bool) {
	w, _ := wantWhat(l[i])
	switch {
	case w.Kind != api.Jump && w.Kind != api.Branch:
		return 0, false
	case l[i].Op == 6:
		return i + 1 + int(l[i].Imm), true
	}
	return i + 1 + int(l[i].Off), true
}

// wantCheck is the chapter's Check, of lists that are as long as may be.
func wantCheck(l []api.Insn) (int, api.Errno) {
	at, last := wantStarts(l), 0
	jumped, end := -1, false
	for i, x := range l {
		if !at[i] {
			continue
		}
		w, ok := wantWhat(x)
		if w.Kind == api.Number || w.Kind == api.Table {
			ok = i+1 < len(l)
			if ok {
				h := l[i+1]
				ok = h.Op == 0 && h.Dst == 0 && h.Src == 0 && h.Off == 0 && (h.Imm == 0 || w.Kind == api.Number)
			}
		}
		if !ok {
			return i, api.ErrInsn
		}
		if to, ok := wantTarget(l, i); ok && !at[to] && jumped < 0 {
			jumped = i
		}
		last, end = i, w.Kind == api.Exit || w.Kind == api.Jump
	}
	switch {
	case jumped >= 0:
		return jumped, api.ErrJump
	case !end:
		return last, api.ErrEnd
	}
	return 0, api.OK
}

// P7.2, P7.3: lists of all kinds of instructions, held against the chapter's words done one by one.
func TestSomeLists(t *testing.T) {
	r := rand.New(rand.NewPCG(7, 2))
	seen := map[api.Errno]int{}
	for range 60000 {
		l := someList(r)
		i, e := code.Check(l)
		if at, why := wantCheck(l); i != at || e != why {
			t.Fatalf("Check(%v) = %d, %d; want %d, %d", l, i, e, at, why)
		}
		seen[e]++
		at, starts := wantStarts(l), code.Starts(l)
		for i := range l {
			if starts[i] != at[i] {
				t.Fatalf("Starts(%v) = %v", l, starts)
			}
			to, jumps := wantTarget(l, i)
			if jumps = jumps && to >= 0 && to < len(l); !jumps {
				to = 0
			}
			if n, ok := code.Target(l, i); n != to || ok != jumps {
				t.Fatalf("Target(%v, %d) = %d, %t; want %d, %t", l, i, n, ok, to, jumps)
			}
		}
	}
	for _, e := range []api.Errno{api.OK, api.ErrInsn, api.ErrJump, api.ErrEnd} {
		if seen[e] < 500 {
			t.Errorf("%d was told %d times: too seldom to be tried", e, seen[e])
		}
	}
}

// P7.2: whatever is handed in, each call ends, and tells nothing beside an error.
func TestAnyLists(t *testing.T) {
	r := rand.New(rand.NewPCG(7, 3))
	for range 20000 {
		l := make([]api.Insn, r.IntN(8))
		for i := range l {
			l[i] = api.Insn{Op: uint8(r.Uint32()), Dst: uint8(r.Uint32()), Src: uint8(r.Uint32()), Off: int16(r.Uint32()), Imm: int32(r.Uint32())}
			if r.IntN(2) == 0 {
				l[i].Op = 24
			}
		}
		askAll(l)
		b := make([]byte, r.IntN(40))
		for i := range b {
			b[i] = uint8(r.Uint32())
		}
		if l, i, e := code.Decode(b); e != api.OK && len(l) != 0 || e == api.OK && i != 0 || i < 0 || i > len(b)/8 {
			t.Fatalf("Decode(%v) = %v, %d, %d", b, l, i, e)
		}
	}
}

// checkProgram holds a program against what P7.4 says of all.
func checkProgram(t *testing.T, l []api.Insn) {
	t.Helper()
	b, i, e := code.Encode(l)
	if !bytes.Equal(b, laid(l)) || i != 0 || e != api.OK {
		t.Fatalf("Encode(%v) = %v, %d, %d", l, b, i, e)
	}
	again, i, e := code.Decode(b)
	if !slices.Equal(again, l) || i != 0 || e != api.OK {
		t.Fatalf("Decode(Encode(%v)) = %v, %d, %d", l, again, i, e)
	}
	starts := code.Starts(l)
	for i, begins := range starts {
		if !begins {
			continue
		}
		w, ok := code.What(l[i])
		if !ok {
			t.Fatalf("What(%v) = false in a program", l[i])
		}
		next := code.Next(l, i)
		if w.Kind != api.Exit && w.Kind != api.Jump && (next >= len(l) || !starts[next]) {
			t.Fatalf("Next(%v, %d) = %d, where none begins", l, i, next)
		}
		to, ok := code.Target(l, i)
		if jumps := w.Kind == api.Jump || w.Kind == api.Branch; ok != jumps || ok && !starts[to] {
			t.Fatalf("Target(%v, %d) = %d, %t", l, i, to, ok)
		}
	}
}

// P7.4: programs come back from their bytes, and go on where instructions begin.
func TestProgramsComeBack(t *testing.T) {
	for _, l := range programs {
		checkProgram(t, l)
	}
	r := rand.New(rand.NewPCG(7, 4))
	n := 0
	for range 60000 {
		if l := someList(r); good(l) {
			checkProgram(t, l)
			n++
		}
	}
	if n < 5000 {
		t.Errorf("%d programs: too few to be tried", n)
	}
}

// good tells whether a list is a program.
func good(l []api.Insn) bool {
	_, e := code.Check(l)
	return e == api.OK
}

// P7.4: bytes that are a program are what it is encoded as.
func TestBytesComeBack(t *testing.T) {
	r := rand.New(rand.NewPCG(7, 5))
	n := 0
	for range 60000 {
		b := laid(someList(r))
		for range r.IntN(3) {
			b[r.IntN(len(b))] = uint8(r.Uint32())
		}
		l, _, e := code.Decode(b)
		if e != api.OK {
			continue
		}
		if again, i, e := code.Encode(l); !bytes.Equal(again, b) || i != 0 || e != api.OK {
			t.Fatalf("Encode(Decode(%v)) = %v, %d, %d", b, again, i, e)
		}
		n++
	}
	if n < 5000 {
		t.Errorf("%d programs: too few to be tried", n)
	}
}
