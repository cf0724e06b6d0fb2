package walk_test

import (
	"math/rand/v2"
	"slices"
	"testing"

	"hackle/alu"
	"hackle/api"
	"hackle/code"
	"hackle/fact"
	"hackle/machine"
	"hackle/mem"
	"hackle/state"
	"hackle/val"
	"hackle/walk"
)

// drawer draws programs most of whose instructions may be done.
type drawer struct {
	r *rand.Rand
	g api.Given
	l []api.Insn
	s api.State // what is known behind l, one way
}

// drawn is a program, and what it is given.
func drawn(r *rand.Rand) ([]api.Insn, api.Given, api.Env) {
	d := &drawer{r: r, g: someGiven(r), s: state.First()}
	d.ahead()
	for n := 30 + r.IntN(40); len(d.l) < n; {
		d.piece()
	}
	d.try(api.Insn{Op: 183, Imm: int32(someNumber(r))})
	d.l = append(d.l, exit)
	d.aim()
	e := api.Env{Ctx: d.bytes(d.g.Ctx), Defs: d.g.Defs}
	for range r.IntN(9) {
		e.Draws = append(e.Draws, someNumber(r))
	}
	for _, def := range d.g.Defs {
		e.Items = append(e.Items, []api.Item{{Key: make([]byte, def.Key), Val: d.bytes(def.Val)}})
	}
	return d.l, d.g, e
}

// bytes is n bytes.
func (d *drawer) bytes(n int) []byte {
	l := make([]byte, n)
	for i := range l {
		l[i] = byte(d.r.Uint32()) & one[byte](d.r, 0, 1, 255)
	}
	return l
}

// try adds an instruction, if it may be done behind l.
func (d *drawer) try(x ...api.Insn) bool {
	w, e := walk.Step(slices.Concat(d.l, x, ins(exit, exit)), d.g, len(d.l), d.s)
	if e != 0 || len(w) == 0 {
		return false
	}
	d.l, d.s = append(d.l, x...), one(d.r, w...).S
	return true
}

// ahead puts something in most registers, and in some of the upper stack.
func (d *drawer) ahead() {
	d.try(api.Insn{Op: 191, Dst: 6, Src: 1})
	d.try(api.Insn{Op: 191, Dst: 7, Src: 10})
	d.try(api.Insn{Op: 7, Dst: 7, Imm: -8 * d.r.Int32N(9)})
	for _, i := range []uint8{0, 2, 3, 4, 5, 8, 9} {
		if d.r.IntN(3) > 0 {
			n := someNumber(d.r)
			d.try(api.Insn{Op: 24, Dst: i, Imm: int32(n)}, api.Insn{Imm: int32(n >> 32)})
		} else {
			d.try(api.Insn{Op: one[uint8](d.r, 97, 121, 113, 145), Dst: i, Src: 1, Off: int16(d.r.IntN(16))})
		}
	}
	for off := int16(-64); off < 0; off += 8 {
		if d.r.IntN(3) > 0 {
			d.try(api.Insn{Op: 122, Dst: 10, Off: off, Imm: one[int32](d.r, 0, 0, 1, 2, 300)})
		}
	}
}

// piece adds some instructions that belong together, or one.
func (d *drawer) piece() {
	switch d.r.IntN(8) {
	case 0:
		d.helper()
	case 1:
		d.try(api.Insn{Op: 123, Dst: 10, Src: uint8(d.r.IntN(11)), Off: -8 * int16(1+d.r.IntN(9))})
	case 2:
		d.try(api.Insn{Op: 121, Dst: uint8(d.r.IntN(10)), Src: 10, Off: -8 * int16(1+d.r.IntN(9))})
	default:
		for range 60 {
			if x := someInsn(d.r); x[0].Op != 5 && x[0].Op != 6 || d.r.IntN(8) == 0 {
				if x[0].Op&7 == 5 || x[0].Op&7 == 6 {
					x[0] = aimed(x[0], 0)
				}
				if d.try(x...) {
					return
				}
			}
		}
	}
}

// helper adds a call, with what it is told.
func (d *drawer) helper() {
	id := one[int32](d.r, 1, 1, 1, 2, 2, 3, 5, 6, 7, 8)
	if id < 4 && len(d.g.Defs) > 0 {
		d.try(api.Insn{Op: 24, Dst: 1, Src: 1, Imm: d.r.Int32N(int32(len(d.g.Defs)))}, api.Insn{})
		for _, reg := range []uint8{2, 3} {
			d.try(api.Insn{Op: 191, Dst: reg, Src: 10})
			d.try(api.Insn{Op: 7, Dst: reg, Imm: -8 * d.r.Int32N(9)})
		}
		d.try(api.Insn{Op: 183, Dst: 4, Imm: d.r.Int32N(4)})
	} else {
		d.try(api.Insn{Op: 183, Dst: 1, Imm: d.r.Int32N(4)})
		d.try(api.Insn{Op: 183, Dst: 2, Imm: d.r.Int32N(4)})
	}
	if d.try(api.Insn{Op: 133, Imm: id}) && id == 1 && d.r.IntN(4) > 0 {
		d.try(api.Insn{Op: 191, Dst: 9})
		d.try(api.Insn{Op: one[uint8](d.r, 0x15, 0x55), Dst: one[uint8](d.r, 0, 9)})
	}
}

// aimed is what jumps, so far.
func aimed(x api.Insn, far int) api.Insn {
	if x.Op == 6 {
		x.Imm = int32(far)
	} else if x.Op != 133 && x.Op != 149 {
		x.Off = int16(far)
	}
	return x
}

// aim gives what jumps a target: mostly not far, and mostly behind it.
func (d *drawer) aim() {
	var begins []int
	for i := 0; i < len(d.l); i = code.Next(d.l, i) {
		begins = append(begins, i)
	}
	for n, i := range begins {
		w, _ := code.What(d.l[i])
		if w.Kind == api.Jump || w.Kind == api.Branch {
			to := max(0, min(len(begins)-1, n+one(d.r, 1, 1, 2, 2, 3, 4, 8, 0, -1, -3)))
			d.l[i] = aimed(d.l[i], begins[to]-i-1)
		}
	}
}

// shadow is what a machine's stack must have: it can't be asked.
type shadow struct {
	b   [bytes]byte
	put [bytes]bool
}

// load is a number from there.
func (h *shadow) load(at, size int) uint64 {
	n := uint64(0)
	for i := size - 1; i >= 0; i-- {
		n = n<<8 | uint64(h.b[at+i])
	}
	return n
}

// store is what an instruction that a machine is about to do puts there.
func (h *shadow) store(m *machine.Machine, x api.Insn) {
	w, _ := code.What(x)
	dst, _ := m.Reg(int(x.Dst))
	n, _ := m.Reg(int(x.Src))
	at := dst + uint64(x.Off) - mem.At(2, 0)
	switch {
	case w.Kind != api.Store && w.Kind != api.Put && w.Kind != api.Atom || at >= bytes:
		return
	case w.Kind == api.Store:
		n = uint64(x.Imm)
	case w.Kind == api.Atom:
		n, _ = alu.Do(w.Op, true, 0, h.load(int(at), w.Size), n)
	}
	for i := range w.Size {
		h.b[int(at)+i], h.put[int(at)+i] = byte(n>>(8*i)), true
	}
}

// mayBe tells whether a machine, with that stack, may be what is known.
func mayBe(s api.State, m *machine.Machine, h *shadow) bool {
	for i, v := range s.Regs {
		if n, set := m.Reg(i); !val.Is(v, n, set) {
			return false
		}
	}
	for i, slot := range s.Slots {
		for n := range 8 {
			if slot.Put>>n&1 == 1 && !h.put[8*i+n] {
				return false
			}
		}
		if slot.V != none() && !val.Is(slot.V, h.load(8*i, 8), true) {
			return false
		}
	}
	return true
}

// lessKnown is s, of which less is known: a register, and a slot.
func lessKnown(r *rand.Rand, s api.State) api.State {
	if i := r.IntN(10); s.Regs[i].Kind == 1 && r.IntN(4) > 0 {
		s.Regs[i] = num(fact.Join(s.Regs[i].N, someFact(r)))
	} else if r.IntN(8) == 0 {
		s.Regs[i] = none()
	}
	i := 63 - r.IntN(9)
	if v := s.Slots[i].V; v.Kind == 1 && r.IntN(4) > 0 {
		s.Slots[i].V.N = fact.Join(v.N, someFact(r))
	} else if r.IntN(8) == 0 {
		s.Slots[i] = api.Slot{Put: s.Slots[i].Put & uint8(r.Uint32())}
	}
	return s
}

// follow runs a program, as far as it may be done, and asks at each instruction that it is done without an error, and is then one of the ways; it counts what was done.
func follow(t *testing.T, r *rand.Rand, done map[uint8]int) {
	t.Helper()
	l, g, e := drawn(r)
	m, wrong := machine.New(l, e)
	if wrong != api.OK {
		t.Fatalf("New of %v: error %d", l, wrong)
	}
	h, s := &shadow{}, state.First()
	for range 300 {
		if r.IntN(8) == 0 {
			s = lessKnown(r, s)
		}
		at := m.At()
		ways, wrong := walk.Step(l, g, at, s)
		if wrong != api.OK {
			return
		}
		h.store(m, l[at])
		e := m.Step()
		if e == api.ErrDry {
			return
		}
		if e != api.OK {
			t.Fatalf("%v at %d of %v: Step told no error, but the machine %d", l[at], at, l, e)
		}
		w, _ := code.What(l[at])
		done[w.Kind]++
		if m.Over() {
			if len(ways) != 0 {
				t.Fatalf("%v at %d of %v is the end, but of %d ways", l[at], at, l, len(ways))
			}
			return
		}
		ways = slices.DeleteFunc(ways, func(w api.Way) bool { return w.At != m.At() || !mayBe(w.S, m, h) })
		if len(ways) == 0 {
			t.Fatalf("%v at %d of %v, with %v: no way is what the machine is", l[at], at, l, s.Regs)
		}
		s = one(r, ways...).S
	}
}

// P14.7: what a program may be it does without an error, and may then be one of the ways.
func TestRuns(t *testing.T) {
	r := rand.New(rand.NewPCG(14, 7))
	done := map[uint8]int{}
	for range 1500 {
		follow(t, r, done)
	}
	for kind := api.Arith; kind <= api.Exit; kind++ {
		if done[kind] < 200 {
			t.Errorf("kind %d was done %d times: too seldom to be tried", kind, done[kind])
		}
	}
}
