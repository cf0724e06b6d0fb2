package graph_test

import (
	"math/rand/v2"
	"slices"
	"testing"

	"hackle/api"
	"hackle/code"
	"hackle/graph"
)

// model is what a program's instructions say by their bytes alone: where one begins; from where to where it goes; from where to where it comes, behind one step or more; where blocks begin.
type model struct {
	begins, heads []bool
	goes, comes   [][]bool
}

// grid is n rows of n.
func grid(n int) [][]bool {
	g := make([][]bool, n)
	for i := range g {
		g[i] = make([]bool, n)
	}
	return g
}

// modelled is that of a program.
func modelled(l []api.Insn) *model {
	n := len(l)
	m := &model{begins: make([]bool, n), heads: make([]bool, n), goes: grid(n), comes: grid(n)}
	m.heads[0] = true
	for i := 0; i < n; i++ {
		m.begins[i] = true
		m.add(l, i)
		if l[i].Op == 0x18 {
			i++
		}
	}
	for i := range n {
		copy(m.comes[i], m.goes[i])
	}
	// Through each place, one behind the other.
	for by := range n {
		for i := range n {
			for j := range n {
				m.comes[i][j] = m.comes[i][j] || m.comes[i][by] && m.comes[by][j]
			}
		}
	}
	return m
}

// add adds what the instruction at i says.
func (m *model) add(l []api.Insn, i int) {
	next, to := i+1, i+1+int(l[i].Off)
	switch op := l[i].Op; {
	case op == 0x18:
		m.goes[i][i+2] = true
		return
	case op == 0x95:
	case op == 0x05:
		m.goes[i][to], m.heads[to] = true, true
	case op == 0x06:
		to = next + int(l[i].Imm)
		m.goes[i][to], m.heads[to] = true, true
	case op != 0x85 && (op&7 == 5 || op&7 == 6):
		m.goes[i][to], m.goes[i][next], m.heads[to] = true, true, true
	default:
		m.goes[i][next] = true
		return
	}
	if next < len(l) {
		m.heads[next] = true
	}
}

// loops tells whether a place to which it comes from 0 comes to itself.
func (m *model) loops() bool {
	for i := range m.comes {
		if (i == 0 || m.comes[0][i]) && m.comes[i][i] {
			return true
		}
	}
	return false
}

// trues is the places that are true.
func trues(l []bool) []int {
	var at []int
	for i, is := range l {
		if is {
			at = append(at, i)
		}
	}
	return at
}

// column is the places whose row has i.
func column(rows [][]bool, i int) []int {
	var at []int
	for j, row := range rows {
		if row[i] {
			at = append(at, j)
		}
	}
	return at
}

// tried counts what was tried, so that it is known to be enough.
type tried struct{ programs, wrongs, loops, ends, unreached, merges, halves int }

// agrees asks whether all that is told of a list is what its model says; of what is no program, nothing.
func (n *tried) agrees(t *testing.T, l []api.Insn) {
	t.Helper()
	if _, e := code.Check(l); e != 0 {
		n.wrongs++
		lists, sets, loops := all(l)
		if slices.ContainsFunc(lists, func(l []int) bool { return len(l) > 0 }) || slices.ContainsFunc(sets, func(l []bool) bool { return len(l) > 0 }) || loops {
			t.Fatalf("%v is no program, but: %v, %v, %t", l, lists, sets, loops)
		}
		return
	}
	m := modelled(l)
	n.count(m)
	for at := range l {
		told(t, "Ahead", l, at, graph.Ahead(l, at), trues(m.goes[at])...)
		told(t, "Behind", l, at, graph.Behind(l, at), column(m.goes, at)...)
		want := slices.Clone(m.comes[at])
		want[at] = m.begins[at]
		sets(t, "Reach", l, graph.Reach(l, at), trues(want)...)
	}
	sets(t, "Heads", l, graph.Heads(l), trues(m.heads)...)
	if got := graph.Loops(l); got != m.loops() {
		t.Errorf("Loops of %v: %t", l, got)
	}
	if t.Failed() {
		t.FailNow()
	}
}

// count counts what a program is.
func (n *tried) count(m *model) {
	n.programs++
	if m.loops() {
		n.loops++
	} else {
		n.ends++
	}
	for i := range m.begins {
		switch {
		case !m.begins[i]:
			n.halves++
		case i > 0 && !m.comes[0][i]:
			n.unreached++
		case len(column(m.goes, i)) > 1:
			n.merges++
		}
	}
}

// enough asks whether of all that was tried there was as much as least, or more.
func (n *tried) enough(t *testing.T, least tried) {
	t.Helper()
	for _, x := range [][2]int{
		{n.programs, least.programs}, {n.wrongs, least.wrongs}, {n.loops, least.loops}, {n.ends, least.ends},
		{n.unreached, least.unreached}, {n.merges, least.merges}, {n.halves, least.halves},
	} {
		if x[0] < x[1] {
			t.Fatalf("too few of some are tried: %+v; want %+v", *n, least)
		}
	}
}

// P16.1, P16.2: all programs of up to four places, with instructions that go to all of them.
func TestAllShortPrograms(t *testing.T) {
	n := &tried{}
	var longer func(l []api.Insn, left int)
	longer = func(l []api.Insn, left int) {
		if left == 0 {
			n.agrees(t, l)
			return
		}
		for _, x := range ins(exit, mov, num, half) {
			longer(append(slices.Clone(l), x), left-1)
		}
		for to := range len(l) + left {
			by := to - len(l) - 1
			longer(append(slices.Clone(l), jump(int16(by))), left-1)
			longer(append(slices.Clone(l), branch(int16(by))), left-1)
		}
	}
	for size := 1; size <= 4; size++ {
		longer(nil, size)
	}
	n.enough(t, tried{5000, 10000, 4000, 1000, 5000, 5000, 60})
}

// one is one of a list.
func one[T any](r *rand.Rand, l ...T) T { return l[r.IntN(len(l))] }

// someList is instructions of all kinds, mostly a program; of jumps some, or many.
func someList(r *rand.Rand, size int) []api.Insn {
	l := make([]api.Insn, size)
	often := one(r, 2, 4, 12)
	for i := 0; i < size; i++ {
		by := r.IntN(size) - i - 1
		switch r.IntN(often) {
		case 0:
			l[i] = one(r, jump(int16(by)), far(int32(by)), branch(int16(by)), branch(int16(by)), api.Insn{Op: 0x5e, Dst: 2, Src: 3, Off: int16(by)}, exit)
		case 1:
			l[i] = one(r, num, table, mov, mov)
			if l[i].Op == 0x18 && i+2 < size {
				i++
			} else {
				l[i] = mov
			}
		default:
			l[i] = one(r, mov, call, api.Insn{Op: 0x79, Src: 1, Off: int16(by)}, api.Insn{Op: 0x62, Dst: 10, Off: int16(by), Imm: int32(by)}, api.Insn{Op: 0xc3, Dst: 10, Off: int16(by)}, api.Insn{Op: 0xd4, Imm: 16})
		}
	}
	if last := size - 1; l[last] != half || r.IntN(3) > 0 {
		l[last] = one(r, exit, exit, jump(int16(-size)), jump(int16(-1-r.IntN(size))), far(int32(-1-r.IntN(size))))
	}
	return aimed(r, l)
}

// aimed makes jumps to other halves mostly jump to the place ahead.
func aimed(r *rand.Rand, l []api.Insn) []api.Insn {
	starts := code.Starts(l)
	for i := range l {
		if to, ok := code.Target(l, i); starts[i] && ok && !starts[to] && r.IntN(20) > 0 {
			if l[i].Op == 0x06 {
				l[i].Imm--
			} else {
				l[i].Off--
			}
		}
	}
	return l
}

// P16.1, P16.2: lists of all kinds, mostly programs.
func TestSomePrograms(t *testing.T) {
	n, r := &tried{}, rand.New(rand.NewPCG(16, 1))
	for range 6000 {
		n.agrees(t, someList(r, 1+r.IntN(24)))
	}
	n.enough(t, tried{5000, 50, 3000, 1500, 15000, 5000, 5000})
}

// P16.1, P16.2: some long ones.
func TestSomeLongPrograms(t *testing.T) {
	n, r := &tried{}, rand.New(rand.NewPCG(16, 2))
	for range 60 {
		n.agrees(t, someList(r, 40+r.IntN(60)))
	}
	n.agrees(t, someList(r, 512))
	n.enough(t, tried{50, 5, 20, 10, 1000, 200, 300})
}
