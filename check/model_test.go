package check_test

import (
	"math/rand/v2"
	"testing"

	"hackle/api"
	"hackle/check"
	"hackle/code"
	"hackle/state"
	"hackle/val"
	"hackle/walk"
)

// todo is something that is yet to be done: a place to be looked at with a state, or that state to be kept of it.
type todo struct {
	keep bool
	at   int
	s    api.State
}

// seen counts what was seen of programs: so the tests know that they try enough.
type seen struct {
	codes                              map[api.Errno]int
	pruned, full, both, goes, hops     int
	joined, lost, again, none, halfway int
}

// modelled is the verdict that P15.2 asks for, by a list of what is yet to be done.
func modelled(l []api.Insn, g api.Given, n *seen) api.Verdict {
	if _, e := code.Check(l); e != 0 || !walk.Right(g) {
		return api.Verdict{Code: errArg}
	}
	aims := map[int]bool{}
	for i := 0; i < len(l); i = code.Next(l, i) {
		if to, ok := code.Target(l, i); ok {
			aims[to] = true
		}
	}
	states, v := make([][]api.State, len(l)), api.Verdict{}
	all := make([]api.Note, len(l))
	for list := []todo{{s: state.First()}}; len(list) > 0; {
		x := list[len(list)-1]
		list = list[:len(list)-1]
		switch {
		case x.keep && len(states[x.at]) < kept:
			states[x.at] = append(states[x.at], x.s)
		case x.keep:
			n.full++
		case aims[x.at] && within(x.s, states[x.at]):
			n.pruned++
		case v.Steps == most:
			v.Code, v.At = errBudget, x.at
			return v
		default:
			v.Steps++
			next, e := walk.Step(l, g, x.at, x.s)
			if e != 0 {
				v.Code, v.At = e, x.at
				return v
			}
			all[x.at] = changed(all[x.at], l, x.at, next, n)
			if aims[x.at] {
				list = append(list, todo{true, x.at, x.s})
			}
			for i := range next {
				w := next[len(next)-1-i]
				list = append(list, todo{false, w.At, w.S})
			}
		}
	}
	v.Notes = all
	return v
}

// within tells whether s is within one of the states.
func within(s api.State, states []api.State) bool {
	for _, k := range states {
		if state.Within(s, k) {
			return true
		}
	}
	return false
}

// changed is a note behind a step.
func changed(x api.Note, l []api.Insn, at int, next []api.Way, n *seen) api.Note {
	v, ok := walk.Result(l, at, next)
	switch {
	case !ok:
		v = nothing()
	case x.Been:
		n.again++
		if v != x.V && x.V.Kind == 1 && v.Kind == 1 {
			n.joined++
		}
		if v = val.Join(x.V, v); v == nothing() {
			n.lost++
		}
	}
	x.Been, x.V = true, v
	w, _ := code.What(l[at])
	if w.Kind != api.Branch {
		return x
	}
	for _, way := range next {
		x.Goes = x.Goes || way.At == at+1
		x.Hops = x.Hops || way.At == at+1+int(l[at].Off)
	}
	return x
}

// count counts what a verdict notes.
func (n *seen) count(v api.Verdict, l []api.Insn) {
	if n.codes == nil {
		n.codes = map[api.Errno]int{}
	}
	n.codes[v.Code]++
	for i, x := range v.Notes {
		w, _ := code.What(l[i])
		switch {
		case !x.Been:
			n.none++
		case w.Kind != api.Branch:
		case x.Goes && x.Hops:
			n.both++
		case x.Goes:
			n.goes++
		case x.Hops:
			n.hops++
		default:
			n.halfway++
		}
	}
}

// P15.2: programs that are drawn, against the words once more.
func TestSomePrograms(t *testing.T) {
	r := rand.New(rand.NewPCG(15, 2))
	n := &seen{}
	for range 700 {
		l, g := someProgram(r)
		want := modelled(l, g, n)
		if got := check.Program(l, g); !same(got, want) {
			t.Fatalf("%v, given %v: %v; want %v", l, g, got, want)
		}
		n.count(want, l)
	}
	t.Log(n)
	for code, many := range map[api.Errno]int{0: 350, errBudget: 30, errArg: 5, errUnset: 30, errPointer: 3, errFault: 20} {
		if n.codes[code] < many {
			t.Errorf("%d programs of which the code is %d: too few to be tried", n.codes[code], code)
		}
	}
	for _, many := range []int{n.pruned, n.full, n.both, n.goes, n.hops, n.joined, n.lost, n.again, n.none} {
		if many < 200 {
			t.Errorf("%v: something is too seldom to be tried", n)
		}
	}
}
