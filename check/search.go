package check

import (
	"slices"

	"hackle/api"
	"hackle/code"
	"hackle/state"
	"hackle/val"
	"hackle/walk"
)

// search goes all ways of a program, and notes what it sees.
type search struct {
	l      []api.Insn
	g      api.Given
	joints []bool
	kept   map[int][]api.State // by their places, which are joints
	notes  []api.Note
	steps  int
}

// look goes all ways from a place on, with what is known there. It tells where, and why, the program must not go on; 0 and OK, if it may.
// As deep as the looks lie in each other, a state in each of them would be much to copy: so ways are told by pointers.
func (p *search) look(w *api.Way) (int, api.Errno) {
	if p.wasLookedAt(w) {
		return 0, api.OK
	}
	ways, e := p.step(w)
	if e != api.OK {
		return w.At, e
	}
	p.note(w.At, ways)
	for i := range ways {
		if at, e := p.look(&ways[i]); e != api.OK {
			return at, e
		}
	}
	// Not ahead of its ways: what comes back to itself would be held for looked at, and a circle would end nowhere.
	p.keep(w)
	return 0, api.OK
}

// wasLookedAt tells whether all that may be known of there was looked at, to its end.
func (p *search) wasLookedAt(w *api.Way) bool {
	return slices.ContainsFunc(p.kept[w.At], func(kept api.State) bool { return state.Within(w.S, kept) })
}

// step is one step more.
func (p *search) step(w *api.Way) ([]api.Way, api.Errno) {
	if p.steps == api.MaxSteps {
		return nil, api.ErrBudget
	}
	p.steps++
	return walk.Step(p.l, p.g, w.At, w.S)
}

// keep keeps what was looked at from a joint on.
func (p *search) keep(w *api.Way) {
	if p.joints[w.At] && len(p.kept[w.At]) < api.MaxKept {
		p.kept[w.At] = append(p.kept[w.At], w.S)
	}
}

// note notes what an instruction does, beside what it was seen to do earlier.
func (p *search) note(at int, ways []api.Way) {
	n := &p.notes[at]
	// Of an instruction of which there is no Result it is zero, and so is the Join of two of these: it stays.
	v, _ := walk.Result(p.l, at, ways)
	if n.Been {
		v = val.Join(n.V, v)
	}
	n.Been, n.V = true, v
	if w, _ := code.What(p.l[at]); w.Kind == api.Branch {
		to, _ := code.Target(p.l, at)
		n.Goes = n.Goes || isTo(ways, code.Next(p.l, at))
		n.Hops = n.Hops || isTo(ways, to)
	}
}

// isTo tells whether one of the ways is to a place.
func isTo(ways []api.Way, at int) bool {
	return slices.ContainsFunc(ways, func(w api.Way) bool { return w.At == at })
}
