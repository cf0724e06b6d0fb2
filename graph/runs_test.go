package graph_test

import (
	"math/rand/v2"
	"slices"
	"testing"

	"hackle/api"
	"hackle/check"
	"hackle/code"
	"hackle/fact"
	"hackle/graph"
	"hackle/machine"
	"hackle/state"
	"hackle/val"
	"hackle/walk"
)

// P16.3: what is Ahead has it Behind, and the other way about.
func TestAheadAndBehind(t *testing.T) {
	r := rand.New(rand.NewPCG(16, 3))
	pairs := 0
	for range 1000 {
		l := someList(r, 1+r.IntN(20))
		for i := range l {
			for j := range l {
				is := slices.Contains(graph.Ahead(l, i), j)
				if is != slices.Contains(graph.Behind(l, j), i) {
					t.Fatalf("%v: Ahead of %d: %v; Behind of %d: %v", l, i, graph.Ahead(l, i), j, graph.Behind(l, j))
				}
				if is {
					pairs++
				}
			}
		}
	}
	if pairs < 5000 {
		t.Errorf("%d pairs: too few", pairs)
	}
}

// P16.3: where one may come, one may go on: what is reached begins, and is an Exit, or has what is reached, too, Ahead; and all of that is reached from there.
func TestOneMayGoOn(t *testing.T) {
	r := rand.New(rand.NewPCG(16, 4))
	reached := 0
	for range 1000 {
		l := someList(r, 1+r.IntN(20))
		starts := code.Starts(l)
		for from := range l {
			all := graph.Reach(l, from)
			for _, at := range trues(all) {
				reached++
				ahead := graph.Ahead(l, at)
				if !starts[at] || (len(ahead) == 0) != (l[at] == exit) {
					t.Fatalf("%v: %d is reached, and Ahead of it is %v", l, at, ahead)
				}
				for _, to := range slices.Concat(ahead, trues(graph.Reach(l, at))) {
					if !all[to] {
						t.Fatalf("%v: %d is reached from %d, %d is from there, but not from %d", l, at, from, to, from)
					}
				}
			}
		}
	}
	if reached < 30000 {
		t.Errorf("%d reached: too few", reached)
	}
}

// drawn is a program of which each Branch hangs on what was drawn last.
func drawn(r *rand.Rand) []api.Insn {
	l := someList(r, 2+r.IntN(20))
	for i, x := range l {
		switch w, _ := code.What(x); w.Kind {
		case api.Branch:
			l[i] = api.Insn{Op: 0xb5, Imm: 1 << 30, Off: x.Off}
		case api.Arith, api.Swaps, api.Load, api.Store, api.Atom:
			l[i] = call
		}
	}
	return append(ins(call), l...)
}

// open is a program, and what it is given, of which each Branch may always go both ways, whatever is known.
func open(r *rand.Rand) ([]api.Insn, api.Given) {
	l := someList(r, 2+r.IntN(20))
	for i, x := range l {
		switch w, _ := code.What(x); w.Kind {
		case api.Branch:
			l[i] = api.Insn{Op: 0x5d, Dst: 6, Src: 7, Off: x.Off}
		case api.Swaps, api.Load, api.Store, api.Atom:
			l[i] = one(r, call, mov)
		}
	}
	l = append(ins(api.Insn{Op: 0x79, Dst: 6, Src: 1}, api.Insn{Op: 0x79, Dst: 7, Src: 1, Off: 8}, mov), l...)
	return l, api.Given{Defs: maps(), Ctx: 16}
}

// maps are those of which table speaks.
func maps() []api.Def { return slices.Repeat([]api.Def{{Key: 4, Val: 8, Max: 1}}, 3) }

// P16.1, P16.2: a program that runs goes from each place to one that is Ahead of it, all of them reached from 0; where it does not loop to none twice.
func TestRunsGoAhead(t *testing.T) {
	r := rand.New(rand.NewPCG(16, 5))
	steps, again := 0, 0
	for range 4000 {
		l, env := drawn(r), api.Env{Defs: maps()}
		for range 60 {
			env.Draws = append(env.Draws, uint64(r.Uint32()))
		}
		m, e := machine.New(l, env)
		if e != 0 {
			continue
		}
		been, reached, loops := make([]bool, len(l)), graph.Reach(l, 0), graph.Loops(l)
		for range 100 {
			at := m.At()
			if !reached[at] || been[at] && !loops {
				t.Fatalf("%v comes to %d: %v are reached, Loops is %t", l, at, trues(reached), loops)
			}
			if been[at] {
				again++
			}
			been[at] = true
			if m.Step() != 0 || m.Over() {
				break
			}
			steps++
			if !slices.Contains(graph.Ahead(l, at), m.At()) {
				t.Fatalf("%v goes from %d to %d: Ahead is %v", l, at, m.At(), graph.Ahead(l, at))
			}
		}
	}
	if steps < 10000 || again < 1000 {
		t.Errorf("%d steps, of which %d came again: too few", steps, again)
	}
}

// P16.1: where a program may go by layer 14 is Ahead, and no other place, as long as nothing is known that keeps it from one.
func TestWaysAreAhead(t *testing.T) {
	r := rand.New(rand.NewPCG(16, 6))
	known := state.First()
	for _, i := range []int{0, 6, 7} {
		known, _ = state.Set(known, i, val.Num(fact.Any()))
	}
	both := 0
	for range 1000 {
		l, g := open(r)
		if _, e := code.Check(l); e != 0 {
			continue
		}
		for at, is := range code.Starts(l) {
			if !is {
				continue
			}
			ways, e := walk.Step(l, g, at, known)
			if e != 0 {
				t.Fatalf("%v at %d: error %d", l, at, e)
			}
			var to []int
			for _, w := range ways {
				to = append(to, w.At)
			}
			slices.Sort(to)
			to = slices.Compact(to)
			told(t, "Ahead", l, at, graph.Ahead(l, at), to...)
			both += len(to) / 2
		}
	}
	if both < 500 {
		t.Errorf("%d went two ways: too few", both)
	}
}

// P16.2: where each Branch may go both ways, a program may run by layer 15 where it does not loop, and there alone; and what is done is what is reached.
func TestWhatIsDoneIsReached(t *testing.T) {
	r := rand.New(rand.NewPCG(16, 7))
	ends, loops := 0, 0
	for range 600 {
		l, g := open(r)
		v := check.Program(l, g)
		switch {
		case v.Code == api.ErrArg:
			continue
		case (v.Code == api.ErrBudget) != graph.Loops(l):
			t.Fatalf("%v: Loops is %t, but it is told: %d at %d", l, graph.Loops(l), v.Code, v.At)
		case v.Code == api.ErrBudget:
			loops++
			continue
		}
		ends++
		for at, is := range graph.Reach(l, 0) {
			if v.Notes[at].Been != is {
				t.Fatalf("%v: %d is reached: %t; is done: %t", l, at, is, !is)
			}
		}
	}
	if ends < 200 || loops < 200 {
		t.Errorf("%d end, %d loop: too few", ends, loops)
	}
}
