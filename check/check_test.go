package check_test

import (
	"math"
	"slices"
	"testing"

	"hackle/api"
	"hackle/check"
)

// The chapter's examples.
func TestExamples(t *testing.T) {
	may(t, ins(set(0, 7), exit), 2, been(of(7)), been(nothing()))
	refuses(t, ins(jump(-1)), given(), errBudget, 0, most)
}

// Those of the document's examples of the whole that ask whether a program may run.
func TestWholeExamples(t *testing.T) {
	g, end := api.Given{Ctx: 8}, "9500000000000000"
	refuses(t, decoded(t, end), g, errUnset, 0, 1)
	refuses(t, decoded(t, "7910040000000000", end), g, errFault, 0, 1)
	refuses(t, decoded(t, "0500ffff00000000"), g, errBudget, 0, most)
	maps := api.Given{Defs: []api.Def{{Key: 4, Val: 8, Max: 2}}, Ctx: 8}
	for _, c := range []struct {
		g     api.Given
		steps int
		text  []string
	}{
		{g, 2, []string{"b700000005000000"}},
		{g, 2, []string{"6110000000000000"}},
		{g, 7, []string{"6112000000000000", "1502010005000000", "b700000007000000", "b700000007000000"}},
		{maps, 8, []string{"620afcff01000000", "18110000000000000000000000000000", "bfa2000000000000", "07020000fcffffff", "8500000001000000", "1500010000000000", "7900000000000000"}},
	} {
		l := decoded(t, append(c.text, end)...)
		if v := check.Program(l, c.g); v.Code != 0 || v.At != 0 || v.Steps != c.steps || len(v.Notes) != len(l) {
			t.Errorf("%v: %v; want %d steps", c.text, v, c.steps)
		}
	}
	// Without its map, the last one may not; with a value of four bytes more than are there, neither.
	l := decoded(t, "620afcff01000000", "18110000000000000000000000000000", "bfa2000000000000", "07020000fcffffff", "8500000001000000", "1500010000000000", "7900040000000000", end)
	refuses(t, l, g, errTold, 1, 2)
	refuses(t, l, maps, errFault, 7, 7)
}

// P15.2: ErrArg, all else zero, of what is no program.
func TestOfNoProgram(t *testing.T) {
	for _, l := range [][]api.Insn{
		nil, {}, ins(set(0, 1)), ins(set(0, 1), api.Insn{Op: 24}), ins(set(0, 1), api.Insn{}, exit), ins(set(0, 1), jump(9), exit), ins(set(0, 1), exit, branch(jeq, 0, 0, 0)), ins(api.Insn{Op: 0xb7, Dst: 10}, exit),
		ins(mov(0, 11), exit), ins(set(0, 1), exit, jump(-4)), slices.Repeat(ins(set(0, 1), exit), 257), ins(api.Insn{Op: 24}, exit, set(0, 1)), ins(set(0, 1), exit, set(0, 1)), ins(api.Insn{Op: 24, Src: 2}, api.Insn{}, exit),
		ins(api.Insn{Op: 24}, api.Insn{}, jump(-2)), slices.Repeat(ins(exit), 513),
	} {
		refuses(t, l, given(), errArg, 0, 0)
		refuses(t, l, api.Given{Ctx: -1}, errArg, 0, 0)
	}
	counts(t, slices.Repeat(ins(set(0, 1), exit), 256), 2)
	counts(t, append(slices.Repeat(ins(set(0, 1)), 511), exit), 512)
	room := ins(set(0, 1), exit, set(0, 1))
	counts(t, room[:2], 2)
	refuses(t, room[:1], given(), errArg, 0, 0)
}

// P15.2: ErrArg, all else zero, of what a program may not be given.
func TestOfWrongGiven(t *testing.T) {
	l := ins(set(0, 1), exit)
	right := api.Def{Key: 4, Val: 8, Max: 1}
	for _, defs := range [][]api.Def{nil, {}, {right}, slices.Repeat([]api.Def{right}, 8)} {
		for _, n := range []int{0, 1, 64} {
			if v := check.Program(l, api.Given{Defs: defs, Ctx: n}); v.Code != 0 || v.Steps != 2 {
				t.Errorf("given %v, %d bytes: %v", defs, n, v)
			}
		}
		for _, n := range []int{-1, 65, math.MinInt, math.MaxInt, 1 << 32} {
			refuses(t, l, api.Given{Defs: defs, Ctx: n}, errArg, 0, 0)
		}
	}
	for _, defs := range [][]api.Def{
		{{}}, {right, {}}, slices.Repeat([]api.Def{right}, 9), {{Key: 3, Val: 8, Max: 1}}, {{Hash: true, Val: 8, Max: 1}}, {{Hash: true, Key: 17, Val: 8, Max: 1}},
		{right, {Key: 4, Val: 9, Max: 1}}, {{Key: 4, Val: 72, Max: 1}}, {{Key: 4, Max: 1}}, {{Key: 4, Val: 8}}, {{Key: 4, Val: 8, Max: 17}},
	} {
		refuses(t, l, api.Given{Defs: defs, Ctx: 20}, errArg, 0, 0)
		refuses(t, ins(exit), api.Given{Defs: defs, Ctx: 20}, errArg, 0, 0)
	}
	room := append(given().Defs, api.Def{})
	refuses(t, l, api.Given{Defs: room}, errArg, 0, 0)
	if v := check.Program(l, api.Given{Defs: room[:2]}); v.Code != 0 {
		t.Errorf("given two maps of three: %v", v)
	}
}

// P15.2: the state at place 0 is layer 13's First: register 1 is where the program's bytes are, register 10 where its stack ends, all else is not set.
func TestFirst(t *testing.T) {
	may(t, ins(mov(0, 1), mov(2, 10), set(0, 0), exit), 4, been(api.Val{Kind: 2}), been(api.Val{Kind: 3, Off: 512}), been(of(0)), been(nothing()))
	for _, i := range []uint8{0, 2, 3, 4, 5, 6, 7, 8, 9} {
		refuses(t, ins(mov(0, i), exit), given(), errUnset, 0, 1)
	}
	for off := int16(-512); off < 0; off += 8 {
		refuses(t, ins(api.Insn{Op: 0x79, Src: 10, Off: off}, exit), given(), errBlank, 0, 1)
	}
}

// P15.2: layer 14's errors, at the place where they are, behind as many steps as were done, that one with them.
func TestErrors(t *testing.T) {
	for _, c := range []struct {
		x    api.Insn
		want api.Errno
	}{
		{exit, errPointer}, {mov(3, 2), errUnset}, {api.Insn{Op: 0x85, Imm: 4}, errHelper}, {api.Insn{Op: 0x85, Imm: 1}, errTold}, {api.Insn{Op: 0x79, Src: 1, Off: 13}, errFault}, {api.Insn{Op: 0x79, Src: 10, Off: -8}, errBlank},
		{api.Insn{Op: 0x7a, Dst: 10, Off: -12}, errAlign}, {api.Insn{Op: 0x72, Dst: 1}, errFixed}, {api.Insn{Op: 0x0f, Dst: 1, Src: 1}, errPointer}, {branch(jgt, 1, 0, 0), errPointer}, {api.Insn{Op: 0x85, Imm: 2}, errTold},
	} {
		refuses(t, ins(mov(0, 1), c.x, set(0, 1), exit), given(), c.want, 1, 2)
		refuses(t, ins(api.Insn{Op: 24, Dst: 9}, api.Insn{Imm: 3}, mov(0, 1), c.x, exit), given(), c.want, 3, 3)
		refuses(t, ins(jump(2), set(0, 1), exit, mov(0, 1), c.x, exit), given(), c.want, 4, 3)
		// What no way leads to may be anything.
		counts(t, ins(set(0, 1), exit, mov(0, 1), c.x, exit), 2)
	}
	table := api.Insn{Op: 24, Dst: 2, Src: 1, Imm: 2}
	refuses(t, ins(set(0, 1), table, api.Insn{}, exit), given(), errTold, 1, 2)
	table.Imm = 1
	counts(t, ins(set(0, 1), table, api.Insn{}, exit), 3)
}

// P15.2: what is given counts: bytes, and maps.
func TestGivenCounts(t *testing.T) {
	for n := range 65 {
		l := ins(api.Insn{Op: 0x71, Src: 1, Off: int16(n)}, exit)
		refuses(t, l, api.Given{Ctx: n}, errFault, 0, 1)
		if n < 64 {
			if v := check.Program(l, api.Given{Ctx: n + 1}); v.Code != 0 {
				t.Errorf("byte %d of %d: %v", n, n+1, v)
			}
		}
	}
	// The value of a numbered map of 16 bytes, looked up, and found.
	l := ins(api.Insn{Op: 0x62, Dst: 10, Off: -8}, api.Insn{Op: 24, Dst: 1, Src: 1}, api.Insn{}, mov(2, 10), add(2, -8), api.Insn{Op: 0x85, Imm: 1}, branch(jeq, 0, 0, 1), api.Insn{Op: 0x79, Off: 8}, exit)
	may(t, l, 8, been(nothing()), been(api.Val{Kind: 4}), api.Note{}, been(api.Val{Kind: 3, Off: 512}), been(api.Val{Kind: 3, Off: 504}), been(nothing()), ways(true, true), been(number(0, math.MaxUint64, 0, math.MaxUint64)), been(nothing()))
	l[1].Imm = 1
	refuses(t, l, given(), errFault, 7, 7)
	l[7].Off = 0
	counts(t, l, 8)
}

// P15.2: the next way is looked at ahead of the target, each to its end; the first error is told.
func TestWaysInOrder(t *testing.T) {
	bad, worse := mov(3, 9), api.Insn{Op: 0x85, Imm: 4}
	refuses(t, ins(chance, branch(jeq, 0, 5, 1), bad, worse, exit), given(), errUnset, 2, 3)
	refuses(t, ins(chance, branch(jeq, 0, 5, 1), worse, bad, exit), given(), errHelper, 2, 3)
	refuses(t, ins(chance, branch(jeq, 0, 5, 1), exit, bad, exit), given(), errUnset, 3, 4)
	refuses(t, ins(chance, branch(jeq, 0, 5, 2), set(0, 1), exit, bad, exit), given(), errUnset, 4, 5)
	refuses(t, ins(chance, branch(jeq, 0, 5, 2), set(0, 1), jump(1), bad, worse, exit), given(), errHelper, 5, 5)
	// A way that is never gone may be wrong.
	counts(t, ins(set(0, 5), branch(jeq, 0, 5, 1), bad, exit), 3)
	counts(t, ins(set(0, 6), branch(jeq, 0, 5, 1), exit, bad, exit), 3)
	refuses(t, ins(set(0, 5), branch(jeq, 0, 5, 1), exit, bad, exit), given(), errUnset, 3, 3)
	// What is known on a way counts there: on the next one no number is above 9.
	counts(t, ins(chance, branch(jgt, 0, 9, 3), branch(jgt, 0, 9, 1), exit, bad, exit), 5)
	refuses(t, ins(chance, branch(jgt, 0, 9, 3), branch(jgt, 0, 8, 1), exit, bad, exit), given(), errUnset, 4, 5)
}
