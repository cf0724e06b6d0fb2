package check_test

import (
	"math/rand/v2"
	"slices"
	"testing"

	"hackle/api"
	"hackle/check"
	"hackle/code"
)

// joins asks which places are joints.
func joins(t *testing.T, l []api.Insn, want ...int) {
	t.Helper()
	got := check.Joints(l)
	if len(got) != len(l) {
		t.Fatalf("Joints of %v are of %d places; want %d", l, len(got), len(l))
	}
	for i, is := range got {
		if is != slices.Contains(want, i) {
			t.Errorf("Joints of %v: of %d %t; want %v", l, i, is, want)
		}
	}
}

// P15.1: the targets of Jumps and Branches are joints, and no others, of programs.
func TestJoints(t *testing.T) {
	joins(t, ins(exit))
	joins(t, ins(set(0, 1), set(0, 2), exit))
	joins(t, ins(jump(-1)), 0)
	joins(t, ins(jump(0), exit), 1)
	joins(t, ins(api.Insn{Op: 6, Imm: 1}, exit, exit), 2)
	joins(t, ins(api.Insn{Op: 6, Imm: -1}, exit), 0)
	joins(t, ins(exit, exit, api.Insn{Op: 6, Imm: -2}), 1)
	joins(t, ins(branch(jeq, 1, 0, 1), exit, exit), 2)
	joins(t, ins(branch(jeq, 1, 0, 2), branch(jne, 1, 0, 1), exit, exit), 3)
	joins(t, ins(branch(jeq, 1, 0, 2), branch(jne, 1, 0, 0), branch(jlt, 1, 0, -3), exit), 0, 2, 3)
	for _, op := range []uint8{0x10, 0x20, 0x30, 0x40, 0x50, 0x60, 0x70, 0xa0, 0xb0, 0xc0, 0xd0} {
		for _, class := range []uint8{5, 6} {
			joins(t, ins(branch(op|class, 1, 0, 1), exit, exit), 2)
			joins(t, ins(api.Insn{Op: op | class | 8, Dst: 1, Src: 2, Off: 1}, exit, exit), 2)
		}
	}
	// A Call, and what has an Off besides, jumps nowhere; nor does an other half whose Imm is what it may be.
	joins(t, ins(api.Insn{Op: 0x85, Imm: 1}, api.Insn{Op: 0x79, Src: 10, Off: 1}, api.Insn{Op: 0x7b, Dst: 10, Off: 1}, exit, exit))
	joins(t, ins(api.Insn{Op: 24, Imm: 1}, api.Insn{Imm: 1}, jump(-3), exit), 0)
	// What no way leads to jumps, too.
	joins(t, ins(set(0, 1), exit, jump(-2)), 1)
}

// P15.1: of what is no program, too.
func TestJointsOfNoProgram(t *testing.T) {
	joins(t, nil)
	joins(t, ins())
	joins(t, ins(jump(0)))
	joins(t, ins(jump(-2)))
	joins(t, ins(jump(1), exit))
	joins(t, ins(set(0, 1), jump(-1)), 1)
	joins(t, ins(api.Insn{Op: 24}))
	joins(t, ins(api.Insn{Op: 24, Dst: 99}))
	// No instruction begins at the other half: it is a target nevertheless, and none of its own.
	joins(t, ins(jump(1), api.Insn{Op: 24}, jump(0), exit), 2)
	joins(t, ins(api.Insn{Op: 24, Src: 9}, jump(-1), exit))
	joins(t, ins(api.Insn{Op: 24}, api.Insn{Op: 24}, jump(-1), exit), 2)
	// Of what is no Jump and no Branch there is no target.
	joins(t, ins(api.Insn{Op: 5, Dst: 1, Off: 0}, exit))
	joins(t, ins(api.Insn{Op: 5, Imm: 1}, exit))
	joins(t, ins(api.Insn{Op: 6, Off: 1}, exit, exit))
	joins(t, ins(api.Insn{Op: 0x15, Dst: 11, Off: 1}, exit, exit))
	joins(t, ins(api.Insn{Op: 0x15, Src: 1, Off: 1}, exit, exit))
	joins(t, ins(api.Insn{Op: 0xe5, Off: 1}, exit, exit))
	joins(t, ins(api.Insn{Op: 0x0d}, exit, exit))
	// More than a program may have.
	long := slices.Repeat(ins(exit), 3000)
	long[2990] = jump(-2000)
	long[10] = api.Insn{Op: 6, Imm: 2950}
	joins(t, long, 991, 2961)
	// What is behind a list's length is not read.
	room := ins(jump(1), exit, exit, jump(-4))
	joins(t, room[:2])
	joins(t, room[:3], 2)
}

// P15.1: lists of all kinds, against the words, one by one.
func TestSomeJoints(t *testing.T) {
	r := rand.New(rand.NewPCG(15, 1))
	found := 0
	for range 20000 {
		l := make([]api.Insn, r.IntN(12))
		for i := range l {
			l[i] = one(r, exit, jump(0), jump(0), api.Insn{Op: 6}, branch(jeq, 1, 2, 0), api.Insn{Op: 0x5e, Src: 3}, api.Insn{Op: 24}, set(1, 1), chance, api.Insn{Op: 5, Dst: 1}, api.Insn{Op: 0xe5})
			far := r.IntN(2*len(l)+3) - len(l) - 1
			if l[i].Op == 6 {
				l[i].Imm = int32(far)
			} else if r.IntN(6) > 0 {
				l[i].Off = int16(far)
			}
		}
		want := map[int]bool{}
		for i := 0; i < len(l); i++ {
			w, _ := code.What(l[i])
			to := i + 1 + int(l[i].Off)
			if l[i].Op == 6 {
				to = i + 1 + int(l[i].Imm)
			}
			if w.Kind == api.Jump || w.Kind == api.Branch {
				want[to] = true
			}
			if l[i].Op == 24 {
				i++
			}
		}
		got := check.Joints(l)
		if len(got) != len(l) {
			t.Fatalf("Joints of %v are of %d places", l, len(got))
		}
		for i, is := range got {
			if is != want[i] {
				t.Fatalf("Joints of %v: of %d %t", l, i, is)
			}
			if is {
				found++
			}
		}
	}
	if found < 15000 {
		t.Errorf("%d joints: too few to be tried", found)
	}
}

// P15.1: what is handed in stays, and what is answered is new.
func TestJointsAreTheCallers(t *testing.T) {
	l := ins(branch(jeq, 1, 0, 1), exit, exit)
	was := slices.Clone(l)
	got := check.Joints(l)
	for i := range got {
		got[i] = !got[i]
	}
	if !slices.Equal(l, was) {
		t.Errorf("Joints of %v made it %v", was, l)
	}
	joins(t, l, 2)
}

// one is one of a list.
func one[T any](r *rand.Rand, l ...T) T { return l[r.IntN(len(l))] }
