package graph_test

import (
	"testing"

	"hackle/api"
	"hackle/graph"
)

// P16.2: from where it may come to where, by hand.
func TestReach(t *testing.T) {
	for _, c := range []struct {
		l    []api.Insn
		from int
		want []int
	}{
		{example, 0, []int{0, 1, 2, 3}},
		{example, 1, []int{1, 2, 3}},
		{example, 2, []int{2, 3}},
		{example, 3, []int{3}},
		{ins(exit), 0, []int{0}},
		{ins(exit, exit), 1, []int{1}},
		{ins(jump(-1)), 0, []int{0}},
		{ins(jump(1), mov, exit), 0, []int{0, 2}},
		{ins(jump(1), mov, exit), 1, []int{1, 2}},
		{ins(far(1), mov, exit), 0, []int{0, 2}},
		{ins(branch(1), exit, exit, exit), 0, []int{0, 1, 2}},
		{ins(branch(0), exit, exit), 0, []int{0, 1}},
		{ins(mov, exit, mov, exit), 0, []int{0, 1}},
		{ins(mov, exit, mov, exit), 2, []int{2, 3}},
		// Back, too, to what is ahead of the place from which it comes.
		{ins(mov, exit, mov, jump(-4)), 0, []int{0, 1}},
		{ins(mov, exit, mov, jump(-4)), 2, []int{0, 1, 2, 3}},
		{ins(mov, exit, mov, jump(-3)), 3, []int{1, 3}},
		{ins(mov, mov, branch(-2), exit), 2, []int{1, 2, 3}},
		{ins(jump(1), jump(2), jump(-2), exit, exit), 0, []int{0, 1, 2, 4}},
		{ins(jump(2), exit, exit, jump(-2), exit), 0, []int{0, 2, 3}},
		// By a target of a target.
		{ins(branch(2), exit, exit, branch(2), exit, exit, branch(-5), exit), 0, []int{0, 1, 2, 3, 4, 6, 7}},
		// An other half is not reached.
		{ins(num, half, exit), 0, []int{0, 2}},
		{ins(num, half, exit), 2, []int{2}},
		{ins(table, half, branch(-3), num, half, exit), 2, []int{0, 2, 3, 5}},
		{ins(jump(2), num, half, exit), 0, []int{0, 3}},
	} {
		sets(t, "Reach", c.l, graph.Reach(c.l, c.from), c.want...)
	}
}

// P16.2: where blocks begin, by hand.
func TestHeads(t *testing.T) {
	for _, c := range []struct {
		l    []api.Insn
		want []int
	}{
		{example, []int{0, 2, 3}},
		{ins(exit), []int{0}},
		{ins(mov, mov, call, mov, exit), []int{0}},
		{ins(mov, exit, mov, exit), []int{0, 2}},
		{ins(exit, exit, exit), []int{0, 1, 2}},
		{ins(jump(-1)), []int{0}},
		{ins(mov, jump(-1)), []int{0, 1}},
		{ins(mov, far(-1)), []int{0, 1}},
		{ins(mov, mov, mov, jump(-3)), []int{0, 1}},
		{ins(mov, jump(1), mov, mov, exit), []int{0, 2, 3}},
		{ins(mov, far(1), mov, mov, exit), []int{0, 2, 3}},
		{ins(mov, jump(0), mov, exit), []int{0, 2}},
		{ins(mov, branch(0), mov, exit), []int{0, 2}},
		{ins(mov, branch(1), mov, mov, exit), []int{0, 2, 3}},
		{ins(mov, mov, branch(-2), mov, exit), []int{0, 1, 3}},
		{ins(mov, mov, branch(-3), mov, exit), []int{0, 3}},
		// Behind an Exit there is one, though it does not come there from it.
		{ins(mov, branch(2), mov, exit, mov, exit, mov, exit), []int{0, 2, 4, 6}},
		// What no way leads to turns, too.
		{ins(mov, mov, exit, mov, jump(-4), mov, exit), []int{0, 1, 3, 5}},
		{ins(mov, mov, exit, mov, branch(-4), mov, exit), []int{0, 1, 3, 5}},
		// Behind an other half nothing begins because of it, and none is a head.
		{ins(num, half, exit), []int{0}},
		{ins(exit, num, half, mov, exit), []int{0, 1}},
		{ins(branch(2), num, half, mov, exit), []int{0, 1, 3}},
		{ins(mov, jump(1), exit, num, half, mov, exit), []int{0, 2, 3}},
		// What a Call, a Load, a Store has as numbers is no target.
		{ins(api.Insn{Op: 0x85, Imm: 1}, api.Insn{Op: 0x79, Src: 1, Off: 1}, api.Insn{Op: 0x7a, Dst: 10, Off: 1}, mov, mov, exit), []int{0}},
	} {
		sets(t, "Heads", c.l, graph.Heads(c.l), c.want...)
	}
}

// P16.2: which programs may come back to where they were, by hand.
func TestLoops(t *testing.T) {
	for _, c := range []struct {
		l    []api.Insn
		want bool
	}{
		{example, false},
		{ins(exit), false},
		{ins(jump(-1)), true},
		{ins(far(-1)), true},
		{ins(mov, jump(-1)), true},
		{ins(mov, jump(-2)), true},
		{ins(mov, mov, far(-2)), true},
		{ins(branch(-1), exit), true},
		{ins(mov, branch(-1), exit), true},
		{ins(mov, branch(-2), exit), true},
		{ins(mov, branch(0), exit), false},
		{ins(num, half, branch(-3), exit), true},
		{ins(mov, num, half, branch(-3), exit), true},
		// Back is not in a circle.
		{ins(jump(1), exit, jump(-2)), false},
		{ins(jump(2), mov, exit, jump(-3)), false},
		{ins(jump(2), mov, jump(1), jump(-3), exit), false},
		{ins(branch(2), mov, exit, branch(-3), exit), false},
		{ins(jump(1), jump(1), jump(-2), exit), false},
		{ins(jump(1), jump(1), jump(-2), jump(-2)), true},
		// A place that ways come to from two others.
		{ins(branch(1), mov, branch(1), mov, exit), false},
		{ins(branch(2), branch(1), branch(0), exit), false},
		// A circle that no way leads to, from 0.
		{ins(exit, jump(-1)), false},
		{ins(exit, mov, jump(-2)), false},
		{ins(jump(2), mov, jump(-2), exit), false},
		{ins(mov, exit, mov, branch(-2), jump(-5)), false},
		{ins(branch(1), exit, jump(1), jump(-1), exit), false},
		// One that begins further on, and one of which 0 is none.
		{ins(mov, mov, mov, jump(-1)), true},
		{ins(branch(1), exit, mov, jump(-2)), true},
		{ins(branch(1), exit, branch(1), exit, jump(-1)), true},
		{ins(branch(1), exit, jump(0), jump(-2)), true},
		// From one of two ways alone.
		{ins(branch(1), jump(-1), exit), true},
		{ins(branch(1), exit, branch(-1), exit), true},
		{ins(mov, branch(1), exit, branch(-3), exit), true},
	} {
		if got := graph.Loops(c.l); got != c.want {
			t.Errorf("Loops of %v: %t", c.l, got)
		}
	}
}
