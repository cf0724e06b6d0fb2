package check_test

import (
	"testing"

	"hackle/api"
)

// P15.2: where as much was looked at already, from a joint on, nothing more is done; where less was, all is done again.
func TestKept(t *testing.T) {
	// First any number, then 5: known already. First 5, then any other one: not.
	counts(t, ins(chance, branch(jeq, 0, 5, 0), exit), 3)
	counts(t, ins(chance, branch(jne, 0, 5, 0), exit), 4)
	// A number that was tried out twice.
	counts(t, ins(chance, branch(jeq, 0, 5, 0), set(0, 1), set(0, 2), exit), 5)
	counts(t, ins(chance, branch(jne, 0, 5, 0), set(0, 1), set(0, 2), exit), 8)
	// More of the stack was known first: 8 bytes of it, then none; the other way about the second way ends at the joint.
	store := api.Insn{Op: 0x7a, Dst: 10, Off: -8}
	counts(t, ins(chance, branch(jeq, 0, 5, 1), store, set(0, 1), exit), 7)
	counts(t, ins(chance, branch(jeq, 0, 5, 2), set(0, 1), exit, store, jump(-4)), 6)
	// An instruction at which no jump aims is done again, though the same is known there.
	counts(t, ins(chance, branch(jeq, 0, 0, 1), set(6, 1), set(0, 1), set(6, 2), exit), 9)
}

// P15.2: a joint is one, whoever aims at it, also one that no way leads to.
func TestKeptOfJoints(t *testing.T) {
	l := ins(api.Insn{Op: 0x61, Dst: 2, Src: 1}, branch(jeq, 2, 5, 1), set(0, 7), set(0, 7), exit)
	counts(t, l, 7)
	// Behind it there is a jump to the Exit.
	for _, x := range []api.Insn{jump(-2), {Op: 6, Imm: -2}, branch(jeq, 9, 0, -2)} {
		counts(t, append(l[:5:5], x, exit), 6)
	}
	// One to the place behind the Exit changes nothing.
	counts(t, append(l[:5:5], jump(-1)), 7)
}

// P15.2: what is kept is kept of a place.
func TestKeptOfPlaces(t *testing.T) {
	// To 3 with any number, and with 5; to 4 with any number, and with 6.
	counts(t, ins(chance, branch(jeq, 0, 5, 1), branch(jeq, 0, 6, 1), jump(0), exit), 5)
	// To 5 with 6 and to 4 with 6, but to 4 with 6 it was not gone ahead: that is one step more.
	counts(t, ins(chance, branch(jeq, 0, 6, 2), set(0, 6), jump(1), jump(0), exit), 6)
}

// P15.2: 16 states are kept of a place, those that were looked at to their end first.
func TestSixteenKept(t *testing.T) {
	for n := range int32(40) {
		// A circle that two ways come to, which know the same there: the second one goes round till it comes to a state that is kept, the innermost of which are.
		l := ins(chance, branch(jeq, 0, 0, 0), set(0, 0), set(6, 0), add(6, 1), branch(jlt, 6, n+1, -2), exit)
		counts(t, l, 7+2*int(n+1)+2*max(0, int(n+1)-kept))
	}
	// Of 15 and of 16 rounds all are kept; of 17 one is not.
	for _, c := range []struct{ first, steps int32 }{{14, 0}, {15, 0}, {16, 2}, {17, 4}} {
		l := ins(chance, branch(jeq, 0, 0, 0), set(0, 0), set(6, -1-c.first), add(6, 1), branch(jne, 6, 0, -2), exit)
		counts(t, l, 7+2*int(c.first+1)+int(c.steps))
	}
}

// P15.2: of one place 16 are kept, however many are kept of others.
func TestSixteenKeptOfEach(t *testing.T) {
	// Two circles, one behind the other, of 16 rounds each, both gone through once more: nothing of them is done again.
	l := ins(chance, branch(jeq, 0, 0, 0), set(0, 0), set(6, 0), add(6, 1), branch(jlt, 6, 16, -2), set(7, 0), add(7, 1), branch(jlt, 7, 16, -2), exit)
	counts(t, l, 4+32+1+32+1+2)
	// What comes to the second circle alone finds its states kept.
	l = ins(chance, mov(8, 0), set(0, 0), set(6, 0), add(6, 1), branch(jlt, 6, 16, -2), branch(jeq, 8, 5, 0), set(7, 0), add(7, 1), branch(jlt, 7, 16, -2), exit)
	counts(t, l, 4+32+1+1+32+1)
	l[6].Op = jne
	counts(t, l, 4+32+1+2*(1+32+1))
}

// P15.2: a state is kept behind its ways, not ahead of them: a circle that ends nowhere is told.
func TestCircles(t *testing.T) {
	refuses(t, ins(jump(-1)), given(), errBudget, 0, most)
	refuses(t, ins(api.Insn{Op: 6, Imm: -1}), given(), errBudget, 0, most)
	refuses(t, ins(jump(0), jump(-2)), given(), errBudget, 0, most)
	refuses(t, ins(set(0, 0), jump(-1)), given(), errBudget, 1, most)
	refuses(t, ins(set(0, 0), jump(0), jump(-2)), given(), errBudget, 2, most)
	refuses(t, ins(set(0, 0), branch(jeq, 0, 0, -1), exit), given(), errBudget, 1, most)
	refuses(t, ins(set(0, 0), chance, branch(jeq, 0, 0, -2), exit), given(), errBudget, 1, most)
	refuses(t, ins(chance, branch(jne, 0, 0, -2), exit), given(), errBudget, 1, most)
	refuses(t, ins(branch(jeq, 1, 0, 1), jump(-2), exit), given(), errBudget, 0, most)
	// One on a way that is looked at late.
	refuses(t, ins(chance, branch(jeq, 0, 5, 1), exit, jump(-1)), given(), errBudget, 3, most)
	// A fault is told ahead of a circle that would be looked at later, but not of one that is looked at earlier.
	refuses(t, ins(chance, branch(jeq, 0, 5, 1), mov(3, 9), jump(-1)), given(), errUnset, 2, 3)
	refuses(t, ins(chance, branch(jeq, 0, 5, 1), jump(-1), mov(3, 9), exit), given(), errBudget, 2, most)
}

// rounds is a program of so many steps: one, two for each round of a circle, and an Exit; with some ahead of it.
func rounds(ahead, n int) []api.Insn {
	var l []api.Insn
	for range ahead {
		l = append(l, set(3, 1))
	}
	return append(l, set(0, 0), add(0, 1), branch(jlt, 0, int32(n), -2), exit)
}

// P15.2: 1024 steps may be looked at, not one more.
func TestBudget(t *testing.T) {
	for n := 508; n < 513; n++ {
		for ahead := range 9 {
			l := rounds(ahead, n)
			steps := ahead + 1 + 2*n + 1
			if steps <= most {
				counts(t, l, steps)
				continue
			}
			// The step that is one too many: of the circle's two, or the Exit.
			at := ahead + 1 + (most-ahead-1)%2
			if steps == most+1 {
				at = ahead + 3
			}
			refuses(t, l, given(), errBudget, at, most)
		}
	}
}

// P15.2: when all steps are done, what was looked at already needs none; what was not has none, whatever would be wrong there.
func TestBudgetIsSpent(t *testing.T) {
	l := ins(chance, branch(jeq, 0, 5, 0), set(6, 0), add(6, 1), branch(jlt, 6, 510, -2), exit)
	counts(t, l, most)
	l[1].Op = jne
	refuses(t, l, given(), errBudget, 2, most)
	l[4].Imm = 509
	refuses(t, l, given(), errBudget, 4, most)
	// A fault at the last step is told; one behind it is not.
	l = rounds(0, 511)
	counts(t, l, most)
	l[3] = mov(3, 9)
	refuses(t, append(l, exit), given(), errUnset, 3, most)
	l = append(rounds(1, 511)[:4], mov(3, 9), exit)
	refuses(t, l, given(), errBudget, 4, most)
	// As many instructions as there may be, and as many steps.
	counts(t, rounds(508, 257), most)
	refuses(t, rounds(508, 258), given(), errBudget, 510, most)
}
