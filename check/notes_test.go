package check_test

import (
	"math"
	"slices"
	"testing"

	"hackle/api"
	"hackle/check"
)

// noted asks for the note of one place of a program that may run.
func noted(t *testing.T, l []api.Insn, at int, want api.Note) {
	t.Helper()
	v := check.Program(l, given())
	if v.Code != 0 || len(v.Notes) != len(l) {
		t.Errorf("%v: error %d at %d, %d notes", l, v.Code, v.At, len(v.Notes))
	} else if v.Notes[at] != want {
		t.Errorf("%v: of %d %v is noted; want %v", l, at, v.Notes[at], want)
	}
}

// P15.2: what each kind of instruction puts to its register is noted; of those that put nothing there, and of Calls, only that they were done.
func TestNotes(t *testing.T) {
	may(t, ins(
		set(6, -1), add(6, 3), api.Insn{Op: 0xdc, Dst: 6, Imm: 16}, api.Insn{Op: 24, Dst: 2, Imm: 1}, api.Insn{Imm: 1}, api.Insn{Op: 24, Dst: 3, Src: 1, Imm: 1}, api.Insn{}, api.Insn{Op: 0x71, Dst: 4, Src: 1, Off: 19},
		api.Insn{Op: 0x7a, Dst: 10, Off: -8, Imm: 9}, api.Insn{Op: 0x7b, Dst: 10, Src: 10, Off: -16}, api.Insn{Op: 0xdb, Dst: 10, Src: 6, Off: -8}, api.Insn{Op: 0x79, Dst: 5, Src: 10, Off: -16}, jump(0), api.Insn{Op: 6}, chance, exit,
	), 14,
		been(of(math.MaxUint64)), been(of(2)), been(of(512)), been(of(1<<32+1)), api.Note{}, been(api.Val{Kind: 4, I: 1}), api.Note{}, been(number(0, 255, 0, 255)),
		been(nothing()), been(nothing()), been(nothing()), been(api.Val{Kind: 3, Off: 512}), been(nothing()), been(nothing()), been(nothing()), been(nothing()))
	// What no way leads to has no note.
	may(t, ins(set(0, 3), jump(2), set(0, 4), exit, branch(jgt, 0, 5, -3), exit), 4, been(of(3)), been(nothing()), api.Note{}, api.Note{}, ways(true, false), been(nothing()))
}

// P15.2: where several ways go, what is noted is all that there may be.
func TestNotesJoin(t *testing.T) {
	l := ins(chance, set(6, 4), branch(jeq, 0, 0, 1), set(6, 6), mov(7, 6), exit)
	may(t, l, 8, been(nothing()), been(of(4)), ways(true, true), been(of(6)), been(number(4, 2, 4, 6)), been(nothing()))
	l[3] = set(6, 4)
	noted(t, l, 4, been(of(4)))
	l[3] = set(6, -1)
	noted(t, l, 4, been(number(4, math.MaxUint64-4, 4, math.MaxUint64)))
	// Of what is known to be a number, and where memory is, nothing is.
	l[3] = mov(6, 10)
	noted(t, l, 4, been(nothing()))
	l[1], l[3] = l[3], l[1]
	noted(t, l, 4, been(nothing()))
	// The same place of memory stays, another one does not.
	l[1], l[3] = mov(6, 10), mov(6, 10)
	noted(t, l, 4, been(api.Val{Kind: 3, Off: 512}))
	l[3] = add(6, -8)
	noted(t, l, 4, been(nothing()))
	// Three times, in a circle: 1, 2 and 3.
	may(t, ins(set(0, 0), add(0, 1), branch(jlt, 0, 3, -2), exit), 8, been(of(0)), been(number(0, 3, 1, 3)), ways(true, true), been(nothing()))
}

// P15.2: of what nothing was known once nothing is later.
func TestNotesStayNothing(t *testing.T) {
	l := ins(chance, set(6, 4), branch(jeq, 0, 0, 3), mov(6, 10), branch(jeq, 0, 1, 1), set(6, 4), mov(7, 6), exit)
	// A 4, then the stack, then a 4 again.
	may(t, l, 12, been(nothing()), been(of(4)), ways(true, true), been(api.Val{Kind: 3, Off: 512}), ways(true, true), been(of(4)), been(nothing()), been(nothing()))
	// A 6, then the stack, then the stack again.
	l[1], l[5] = mov(6, 10), set(6, 6)
	noted(t, l, 6, been(nothing()))
	// The stack, then a 4, then a 4 again.
	l = ins(chance, set(6, 4), branch(jeq, 0, 0, 3), mov(8, 10), branch(jeq, 0, 1, 1), mov(6, 10), mov(7, 6), exit)
	noted(t, l, 6, been(nothing()))
	// A 4, then a 6, then the stack.
	l = ins(chance, mov(6, 10), branch(jeq, 0, 0, 3), set(6, 6), branch(jeq, 0, 1, 1), set(6, 4), mov(7, 6), exit)
	noted(t, l, 6, been(nothing()))
	// A 4, then a 6, then a 12.
	l[1] = set(6, 12)
	noted(t, l, 6, been(number(4, 10, 4, 12)))
}

// P15.2: of a Branch it is noted whether it went on, and whether it went to its target.
func TestNotesOfBranches(t *testing.T) {
	for _, c := range []struct {
		l          []api.Insn
		goes, hops bool
	}{
		{ins(set(0, 5), branch(jeq, 0, 6, 1), exit, exit), true, false},
		{ins(set(0, 5), branch(jeq, 0, 5, 1), exit, exit), false, true},
		{ins(chance, branch(jeq, 0, 5, 1), exit, exit), true, true},
		{ins(chance, branch(jlt, 0, 0, 1), exit, exit), true, false},
		{ins(chance, branch(jge, 0, 0, 1), exit, exit), false, true},
		// One way to where both would go is both.
		{ins(set(0, 5), branch(jeq, 0, 6, 0), exit), true, true},
		{ins(set(0, 5), branch(jeq, 0, 5, 0), exit), true, true},
		{ins(chance, branch(jeq, 0, 5, 0), exit), true, true},
		// What is where memory is is never 0.
		{ins(set(0, 5), branch(jeq, 10, 0, 1), exit, exit), true, false},
		{ins(set(0, 5), branch(jne, 10, 0, 1), exit, exit), false, true},
		{ins(set(0, 5), branch(jeq, 1, 0, 0), exit), true, true},
	} {
		noted(t, c.l, 1, ways(c.goes, c.hops))
	}
}

// P15.2: what a Branch did once stays noted, whatever it does later.
func TestNotesOfBranchesStay(t *testing.T) {
	// It hops first, and goes on last; the other way about.
	may(t, ins(set(0, 0), add(0, 1), branch(jne, 0, 9, -2), exit), 20, been(of(0)), been(number(0, 15, 1, 9)), ways(true, true), been(nothing()))
	may(t, ins(set(0, 0), add(0, 1), branch(jeq, 0, 9, 1), jump(-3), exit), 28, been(of(0)), been(number(0, 15, 1, 9)), ways(true, true), been(nothing()), been(nothing()))
	for _, c := range []struct{ next, target, limit int32 }{{7, 1, 5}, {1, 7, 5}} {
		// On one way more than 5, on the other one less.
		l := ins(chance, set(6, c.target), branch(jeq, 0, 0, 1), set(6, c.next), branch(jgt, 6, c.limit, 1), exit, exit)
		noted(t, l, 4, ways(true, true))
		l[1], l[3] = set(6, 7), set(6, 8)
		noted(t, l, 4, ways(false, true))
		l[1], l[3] = set(6, 1), set(6, 2)
		noted(t, l, 4, ways(true, false))
	}
}

// P15.2: where what is known is of no number, a Branch has no way: nothing behind it is done.
func TestNotesOfNoWay(t *testing.T) {
	// Bits of 1 or 5, and from 3 to 4: neither a 3 nor something else.
	l := ins(chance, api.Insn{Op: 0x57, Imm: 4}, api.Insn{Op: 0x47, Imm: 1}, branch(jge, 0, 3, 1), exit, branch(jle, 0, 4, 1), exit, branch(jeq, 0, 3, 1), exit, exit)
	may(t, l, 8, been(nothing()), been(number(0, 4, 0, 4)), been(number(1, 4, 1, 5)), ways(true, true), been(nothing()), ways(true, true), been(nothing()), ways(false, false), api.Note{}, api.Note{})
}

// P15.2: with an error there are no notes, wherever it is; without one there are as many as there are places.
func TestNoNotes(t *testing.T) {
	for n := range 40 {
		l := append(slices.Repeat(ins(set(0, 1)), n), mov(3, 9), exit)
		refuses(t, l, given(), errUnset, n, n+1)
		counts(t, append(slices.Repeat(ins(set(0, 1)), n+1), exit), n+2)
	}
}

// What is handed in stays, and what is answered is new: asked again, it is the same.
func TestMemoryIsTheCallers(t *testing.T) {
	for _, l := range [][]api.Insn{
		ins(set(0, 7), exit), ins(jump(-1)), ins(exit), ins(exit, set(0, 1)), ins(set(0, 0), add(0, 1), branch(jlt, 0, 3, -2), exit),
		ins(api.Insn{Op: 0x62, Dst: 10, Off: -8}, api.Insn{Op: 24, Dst: 1, Src: 1}, api.Insn{}, mov(2, 10), add(2, -8), api.Insn{Op: 0x85, Imm: 1}, branch(jeq, 0, 0, 1), api.Insn{Op: 0x79, Off: 8}, exit),
	} {
		was, g := slices.Clone(l), given()
		v := check.Program(l, g)
		again := api.Verdict{Code: v.Code, At: v.At, Steps: v.Steps, Notes: slices.Clone(v.Notes)}
		for i := range v.Notes {
			v.Notes[i] = ways(true, true)
		}
		if got := check.Program(l, g); !same(got, again) {
			t.Errorf("%v: %v, and asked again %v", l, again, got)
		}
		if !slices.Equal(l, was) || !slices.Equal(g.Defs, given().Defs) || g.Ctx != 20 {
			t.Errorf("%v is not what was handed in: %v", l, was)
		}
	}
}
