package walk_test

import (
	"math"
	"math/rand/v2"
	"slices"
	"testing"

	"hackle/alu"
	"hackle/api"
	"hackle/code"
	"hackle/cond"
	"hackle/fact"
	"hackle/help"
	"hackle/state"
	"hackle/val"
	"hackle/walk"
)

// model is the chapter once more, straight from the Ops of instructions. It panics by an api.Errno.
type model struct {
	g api.Given
	x api.Insn
	s api.State
}

// modelled is what Step must tell of a program, of a place where an instruction begins, and of a state that is right.
func modelled(l []api.Insn, g api.Given, at int, s api.State) (w []api.Way, e api.Errno) {
	defer func() {
		if r := recover(); r != nil {
			w, e = nil, r.(api.Errno)
		}
	}()
	m := &model{g, l[at], s}
	switch op := m.x.Op; {
	case op == 149:
		m.must(m.set(0).Kind == 1, errPointer)
		return nil, 0
	case op == 5:
		return []api.Way{{At: at + 1 + int(m.x.Off), S: s}}, 0
	case op == 6:
		return []api.Way{{At: at + 1 + int(m.x.Imm), S: s}}, 0
	case op == 24:
		n := uint64(uint32(m.x.Imm)) + uint64(uint32(l[at+1].Imm))<<32
		if m.x.Src == 1 {
			m.must(int(m.x.Imm) < len(g.Defs), errTold)
			m.s.Regs[m.x.Dst] = word(int(m.x.Imm))
		} else {
			m.s.Regs[m.x.Dst] = of(n)
		}
		at++
	case op == 133:
		m.call()
	case op&7 == 5 || op&7 == 6:
		return m.branch(at), 0
	case op&7 == 1:
		m.load()
	case op&7 == 2 || op&7 == 3:
		m.store()
	case op == 212 || op == 220 || op == 215:
		m.swap(op != 212)
	default:
		m.arith()
	}
	return []api.Way{{At: at + 1, S: m.s}}, 0
}

// must panics by an error, if something does not hold.
func (m *model) must(holds bool, e api.Errno) {
	if !holds {
		panic(e)
	}
}

// set is a register, which must be set.
func (m *model) set(i uint8) api.Val {
	m.must(m.s.Regs[i].Kind != 0, errUnset)
	return m.s.Regs[i]
}

// other is the second number.
func (m *model) other() api.Val {
	if m.x.Op&8 != 0 {
		return m.set(m.x.Src)
	}
	return of(uint64(int64(m.x.Imm)))
}

// arith is arithmetic.
func (m *model) arith() {
	op, wide := m.x.Op&0xf0, m.x.Op&7 == 7
	a, b := of(0), of(0)
	if op != 0xb0 {
		a = m.set(m.x.Dst)
	}
	if op != 0x80 {
		b = m.other()
	}
	r := &m.s.Regs[m.x.Dst]
	n, known := fact.Known(b.N)
	if wide && op == 0xb0 && m.x.Off == 0 {
		*r = b
		return
	}
	if wide && op < 0x20 && slices.Contains([]uint8{2, 3, 5}, a.Kind) {
		m.must(b.Kind == 1 && known, errPointer)
		if op == 0x10 {
			n = 0 - n
		}
		to, ok := val.Move(a, n)
		m.must(ok, errPointer)
		*r = to
		return
	}
	m.must(a.Kind == 1 && b.Kind == 1, errPointer)
	f, _ := fact.Do(op, wide, m.x.Off, a.N, b.N)
	*r = val.Num(f)
}

// swap turns bytes about, or cuts them.
func (m *model) swap(turn bool) {
	v := m.set(m.x.Dst)
	m.must(v.Kind == 1, errPointer)
	m.s.Regs[m.x.Dst] = upTo(int(m.x.Imm))
	if n, known := fact.Known(v.N); known {
		n, _ = alu.Swap(turn, int(m.x.Imm), n)
		m.s.Regs[m.x.Dst] = of(n)
	}
}

// size is how many bytes of memory Op tells of.
func (m *model) size() int {
	return map[uint8]int{0x00: 4, 0x08: 2, 0x10: 1, 0x18: 8}[m.x.Op&0x18]
}

// there asks that memory of what is given, or of a map, is there.
func (m *model) there(at api.Val, sum, size int) {
	room := m.g.Ctx
	if at.Kind == 5 {
		m.must(at.I < len(m.g.Defs), errFault)
		room = m.g.Defs[at.I].Val
	}
	m.must(sum >= 0 && sum+size <= room, errFault)
}

// load is from memory.
func (m *model) load() {
	at := m.set(m.x.Src)
	m.must(at.Kind == 2 || at.Kind == 3 || at.Kind == 5, errPointer)
	sum := at.Off + int(m.x.Off)
	v, e := upTo(8*m.size()), api.Errno(0)
	if at.Kind == 3 {
		v, e = state.Get(m.s, sum, m.size())
		m.must(e == 0, e)
	} else {
		m.there(at, sum, m.size())
	}
	if m.x.Op&0xe0 == 0x80 {
		m.must(v.Kind == 1, errPointer)
		if n, known := fact.Known(v.N); known {
			v = of(alu.Sign(n, 8*m.size()))
		} else {
			v = anything()
		}
	}
	m.s.Regs[m.x.Dst] = v
}

// store is to memory.
func (m *model) store() {
	at, v := m.set(m.x.Dst), of(uint64(int64(m.x.Imm)))
	if m.x.Op&7 == 3 {
		v = m.set(m.x.Src)
	}
	isAtom := m.x.Op == 195 || m.x.Op == 219
	m.must(at.Kind == 2 || at.Kind == 3 || at.Kind == 5, errPointer)
	m.must(!isAtom || v.Kind == 1, errPointer)
	m.must(at.Kind != 2, errFixed)
	sum := at.Off + int(m.x.Off)
	if at.Kind == 5 {
		m.there(at, sum, m.size())
		m.must(v.Kind == 1, errPointer)
		return
	}
	if isAtom {
		was, e := state.Get(m.s, sum, m.size())
		m.must(e == 0, e)
		m.must(was.Kind == 1, errPointer)
		v = anything()
	}
	m.must(m.size() == 8 || v.Kind == 1, errPointer)
	s, e := state.Put(m.s, sum, m.size(), v)
	m.must(e == 0, e)
	m.s = s
}

// branch is a condition.
func (m *model) branch(at int) []api.Way {
	op, wide := m.x.Op&0xf0, m.x.Op&7 == 5
	a, b := m.set(m.x.Dst), m.other()
	on, to := api.Way{At: at + 1, S: m.s}, api.Way{At: at + 1 + int(m.x.Off), S: m.s}
	if n, known := fact.Known(b.N); wide && (op == 0x10 || op == 0x50) && b.Kind == 1 && known && n == 0 {
		switch {
		case a.Kind == 6 && op == 0x10:
			on.S.Regs[m.x.Dst], to.S.Regs[m.x.Dst] = in(a.I, 0), of(0)
			return []api.Way{on, to}
		case a.Kind == 6:
			on.S.Regs[m.x.Dst], to.S.Regs[m.x.Dst] = of(0), in(a.I, 0)
			return []api.Way{on, to}
		case (a.Kind == 2 || a.Kind == 3 || a.Kind == 5) && op == 0x10:
			return []api.Way{on}
		case a.Kind == 2 || a.Kind == 3 || a.Kind == 5:
			return []api.Way{to}
		}
	}
	m.must(a.Kind == 1 && b.Kind == 1, errPointer)
	var l []api.Way
	if not, ok := cond.Not(op); ok {
		l = m.may(l, not, wide, on, a, b)
	} else {
		holds, _ := cond.Is(op, wide, a.N.Bits.Value, b.N.Bits.Value)
		if a.N.Bits.Mask != 0 || b.N.Bits.Mask != 0 || !holds {
			l = append(l, on)
		}
	}
	return m.may(l, op, wide, to, a, b)
}

// may adds a way, if it may be.
func (m *model) may(l []api.Way, op uint8, wide bool, w api.Way, a, b api.Val) []api.Way {
	x, y, may := fact.If(op, wide, a.N, b.N)
	if !may {
		return l
	}
	if isReg := m.x.Op&8 != 0; !isReg || m.x.Dst != m.x.Src {
		w.S.Regs[m.x.Dst] = val.Num(x)
		if isReg {
			w.S.Regs[m.x.Src] = val.Num(y)
		}
	}
	return append(l, w)
}

// call is a helper.
func (m *model) call() {
	sig, ok := help.Sig(int(m.x.Imm))
	m.must(ok, errHelper)
	for i, kind := range sig.Told {
		v := m.set(uint8(i + 1))
		switch kind {
		case 1:
			m.must(v.Kind == 4 && v.I < len(m.g.Defs), errTold)
		case 2:
			m.shown(v, m.g.Defs[m.s.Regs[1].I].Key)
		case 3:
			m.shown(v, m.g.Defs[m.s.Regs[1].I].Val)
		case 4:
			m.must(v.Kind == 1, errPointer)
		}
	}
	i := m.s.Regs[1].I
	for n := 1; n < 6; n++ {
		m.s.Regs[n] = none()
	}
	m.s.Regs[0] = fromTo(0, sig.Most)
	if sig.Tells == 2 {
		m.s.Regs[0] = maybe(i)
	}
}

// shown asks that so many bytes of memory may be read.
func (m *model) shown(at api.Val, size int) {
	m.must(at.Kind == 2 || at.Kind == 3 || at.Kind == 5, errPointer)
	if at.Kind == 3 {
		m.must(at.Off >= 0 && at.Off+size <= bytes, errFault)
		m.must(state.Full(m.s, at.Off, size), errBlank)
		return
	}
	m.there(at, at.Off, size)
}

// one is one of a list.
func one[T any](r *rand.Rand, l ...T) T { return l[r.IntN(len(l))] }

// someNumber is a number of 64 bits, often small, or nearly 2^64.
func someNumber(r *rand.Rand) uint64 {
	n := r.Uint64() >> r.IntN(64)
	if r.IntN(3) == 0 {
		return -n
	}
	return n
}

// someFact is what is known of a number.
func someFact(r *rand.Rand) api.Fact {
	for {
		n, m := someNumber(r), someNumber(r)
		f := api.Fact{Bits: api.Tnum{Mask: math.MaxUint64}, Range: api.Span{Low: min(n, m), High: max(n, m)}}
		switch r.IntN(4) {
		case 0:
			return fact.Of(one(r, n, 0, 0, 8, 16, neg(8)))
		case 1:
			f.Range = api.Span{High: math.MaxUint64}
			f.Bits = api.Tnum{Value: n &^ m, Mask: m}
		case 2:
			f.Bits = api.Tnum{Value: n &^ m, Mask: m}
		}
		if f, ok := fact.Settle(f); ok {
			return f
		}
	}
}

// someVal is a Val of some kind, mostly near where it may be used.
func someVal(r *rand.Rand) api.Val {
	i := one(r, 0, 0, 0, 1, 1, 2, 7)
	switch r.IntN(9) {
	case 0:
		return none()
	case 1:
		return ctx(one(r, 0, r.IntN(70), -r.IntN(9), r.IntN(far)))
	case 2:
		return stack(one(r, 512, r.IntN(530), 8*r.IntN(65), -r.IntN(9), far-r.IntN(9)))
	case 3:
		return word(i)
	case 4:
		return in(i, one(r, 0, 8, r.IntN(20), -r.IntN(9), -far))
	case 5:
		return maybe(i)
	}
	return num(someFact(r))
}

// someState is a state that may be in a program.
func someState(r *rand.Rand) api.State {
	s := first()
	for i := range regs - 1 {
		s.Regs[i] = someVal(r)
	}
	for i := range slots {
		switch r.IntN(4) {
		case 0:
			s.Slots[i].Put = uint8(r.Uint32())
		case 1:
			s.Slots[i].Put = one[uint8](r, 255, 0, 0x0f, 0xf0)
		case 2:
			if v := someVal(r); v != none() {
				s.Slots[i] = api.Slot{V: v, Put: 255}
			}
		}
	}
	return s
}

// forCall is s with registers that a helper may mostly be told.
func forCall(r *rand.Rand, s api.State) api.State {
	l := []api.Val{word(r.IntN(3)), someVal(r), someVal(r), num(someFact(r))}
	for i := 1; i < 3; i++ {
		if r.IntN(2) == 0 {
			at := 8 * r.IntN(63)
			l[i] = stack(at + r.IntN(2))
			s.Slots[at/8].Put, s.Slots[at/8+1].Put = 255, 255
		}
	}
	return told(s, l...)
}

// someGiven is what a program may be given.
func someGiven(r *rand.Rand) api.Given {
	g := api.Given{Ctx: one(r, 0, 8, 20, 64, r.IntN(65))}
	for range r.IntN(4) {
		g.Defs = append(g.Defs, one(r, api.Def{Key: 4, Val: 8 * (1 + r.IntN(8)), Max: 1 + r.IntN(16)}, api.Def{Hash: true, Key: 1 + r.IntN(16), Val: 8 * (1 + r.IntN(8)), Max: 1 + r.IntN(16)}))
	}
	return g
}

// someInsn is an instruction, with its other half, if it has one. What jumps does not jump far.
func someInsn(r *rand.Rand) []api.Insn {
	for {
		x := api.Insn{Op: uint8(r.Uint32()), Dst: uint8(r.IntN(11)), Src: uint8(r.IntN(11)), Off: one(r, int16(r.IntN(40)-20), int16(-8*r.IntN(65)), 0, 0, 1, 8, 16, 32), Imm: one(r, int32(someNumber(r)), 0, 0, 1, 8, 16, 32, 64, 80, 160, r.Int32N(9))}
		if r.IntN(4) > 0 {
			x.Op = one[uint8](r, 5, 24, 97, 121, 145, 133, 133, 149, 212, 215, 220, 0x15, 0x55, 0x07, 0x1f, 98, 106, 114, 122, 99, 107, 115, 123, 195, 195, 219, 219)
		}
		for _, p := range []*uint8{&x.Dst, &x.Src} {
			if r.IntN(3) == 0 {
				*p = 0
			}
		}
		if r.IntN(2) == 0 {
			x.Off = 0
		}
		if r.IntN(2) == 0 {
			x.Imm = 0
		}
		w, ok := code.What(x)
		switch {
		case !ok:
			continue
		case w.Kind == api.Branch || x.Op == 5:
			x.Off = one[int16](r, 0, 1, 2, -1, -2, -4)
		case x.Op == 6:
			x.Imm = one[int32](r, 0, 1, 2, -1, -2, -4)
		case w.Kind == api.Number:
			return ins(x, api.Insn{Imm: int32(someNumber(r))})
		case w.Kind == api.Table:
			return ins(x, api.Insn{})
		}
		return ins(x)
	}
}

// P14.1 to P14.6: instructions and states of all kinds, held against the chapter's words done once more.
func TestSomeSteps(t *testing.T) {
	r := rand.New(rand.NewPCG(14, 1))
	codes, done, ways := map[api.Errno]int{}, map[uint8]int{}, map[int]int{}
	for range 300000 {
		x, g, s := someInsn(r), someGiven(r), someState(r)
		w, _ := code.What(x[0])
		if w.Kind == api.Call {
			s = forCall(r, s)
		}
		l := laid(x...)
		got, e := walk.Step(l, g, place, s)
		want, why := modelled(l, g, place, s)
		if e != why || !slices.Equal(got, want) {
			t.Fatalf("%v of %v, given %v: error %d, %d ways, the same: %t; want error %d%s", x, s.Regs, g, e, len(got), slices.Equal(got, want), why, unlike(got, want))
		}
		for _, to := range got {
			if !state.Right(to.S) || to.S.Regs[10] != stack(512) || !code.Starts(l)[to.At] {
				t.Fatalf("%v of %v goes where it may not be", x, s.Regs)
			}
		}
		v, ok := walk.Result(l, place, got)
		isValue := e == 0 && w.Kind != 0 && (w.Kind <= api.Load)
		if ok != isValue || ok && v != want[0].S.Regs[x[0].Dst] || !ok && v != none() {
			t.Fatalf("%v of %v: Result is %v, %t", x, s.Regs, v, ok)
		}
		codes[e]++
		if e == 0 {
			done[w.Kind]++
			ways[len(got)]++
		}
	}
	for _, e := range []api.Errno{0, errFault, errBlank, errFixed, errUnset, errHelper, errTold, errAlign, errPointer} {
		if codes[e] < 300 {
			t.Errorf("error %d was told %d times: too seldom to be tried", e, codes[e])
		}
	}
	for kind := api.Arith; kind <= api.Exit; kind++ {
		if done[kind] < 300 {
			t.Errorf("kind %d was done %d times: too seldom to be tried", kind, done[kind])
		}
	}
	for n := range 3 {
		if ways[n] < 300 {
			t.Errorf("%d ways were told %d times: too seldom to be tried", n, ways[n])
		}
	}
}

// P14.1, P14.6: whatever is handed in, each call ends, and tells nothing beside an error.
func TestAnything(t *testing.T) {
	r := rand.New(rand.NewPCG(14, 2))
	for range 20000 {
		l := make([]api.Insn, r.IntN(6))
		for i := range l {
			l[i] = api.Insn{Op: uint8(r.Uint32()), Dst: uint8(r.Uint32()), Src: uint8(r.Uint32()), Off: int16(r.Uint32()), Imm: int32(r.Uint32())}
			if r.IntN(3) == 0 {
				l[i] = someInsn(r)[0]
			}
		}
		if r.IntN(3) > 0 {
			l = append(l, exit)
		}
		g, s := someGiven(r), someState(r)
		at := one(r, 0, 0, 0, r.IntN(8)-1, int(r.Uint64()))
		switch r.IntN(6) {
		case 0:
			g.Ctx = int(r.Uint64())
		case 1:
			g.Defs = append(g.Defs, api.Def{Hash: r.IntN(2) == 0, Key: int(r.Uint64()), Val: int(r.Uint64()), Max: int(r.Uint64())})
		case 2:
			s.Regs[r.IntN(11)] = api.Val{Kind: uint8(r.Uint32()), I: int(r.Uint64()), Off: int(r.Uint64())}
		case 3:
			s.Slots[r.IntN(64)] = api.Slot{V: api.Val{Kind: uint8(r.Uint32()), I: int(r.Uint64()), Off: int(r.Uint64())}, Put: uint8(r.Uint32())}
		}
		walk.Right(g)
		w, e := walk.Step(l, g, at, s)
		if e != 0 && len(w) != 0 {
			t.Fatalf("Step of %v at %d: %d ways beside error %d", l, at, len(w), e)
		}
		walk.Result(l, at, w)
		if v, ok := walk.Result(l, at, []api.Way{{At: int(r.Uint64()), S: s}}); !ok && v != none() {
			t.Fatalf("Result of %v at %d: %v beside false", l, at, v)
		}
	}
}
