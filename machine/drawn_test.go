package machine_test

import (
	"math/rand/v2"
	"testing"

	"hackle/api"
	"hackle/code"
	"hackle/machine"
)

// drawer draws programs, most of which go on for a while.
type drawer struct {
	r *rand.Rand
	l []api.Insn
	e api.Env
}

// drawn is a program, and what it is given.
func drawn(r *rand.Rand) ([]api.Insn, api.Env) {
	d := &drawer{r: r}
	d.given()
	d.ahead()
	for range 5 + r.IntN(40) {
		d.piece()
	}
	if r.IntN(8) == 0 {
		d.add(api.Insn{Op: 5})
	} else {
		d.add(api.Insn{Op: 149})
	}
	d.aim()
	return d.l, d.e
}

// one is one of a list.
func one[T any](r *rand.Rand, l ...T) T { return l[r.IntN(len(l))] }

// add adds instructions.
func (d *drawer) add(l ...api.Insn) { d.l = append(d.l, l...) }

// bytes is n bytes.
func (d *drawer) bytes(n int) []byte {
	l := make([]byte, n)
	for i := range l {
		l[i] = byte(d.r.Uint32()) & one[byte](d.r, 0, 1, 255)
	}
	return l
}

// num is a number of 64 bits, often small, or nearly 2^64.
func (d *drawer) num() uint64 {
	n := d.r.Uint64() >> d.r.IntN(64)
	if d.r.IntN(3) == 0 {
		return -n
	}
	return n
}

// given draws what a program is given.
func (d *drawer) given() {
	d.e.Ctx = d.bytes(one(d.r, 0, 1, 8, 16, 63, 64))
	for range d.r.IntN(4) {
		d.e.Defs = append(d.e.Defs, api.Def{Hash: true, Key: one(d.r, 1, 2, 4, 8, 16), Val: one(d.r, 8, 16, 64), Max: 1 + d.r.IntN(3)})
		if d.r.IntN(2) == 0 {
			d.e.Defs[len(d.e.Defs)-1] = api.Def{Key: 4, Val: one(d.r, 8, 16, 64), Max: 1 + d.r.IntN(3)}
		}
	}
	for _, def := range d.e.Defs[:d.r.IntN(len(d.e.Defs)+1)] {
		var l []api.Item
		for n := range d.r.IntN(def.Max + 1) {
			key := make([]byte, def.Key)
			key[0] = byte(n)
			l = append(l, api.Item{Key: key, Val: d.bytes(def.Val)})
		}
		d.e.Items = append(d.e.Items, l)
	}
	for range d.r.IntN(6) {
		d.e.Draws = append(d.e.Draws, d.num())
	}
}

// ahead puts something in most registers, and in most of the upper stack.
func (d *drawer) ahead() {
	d.add(api.Insn{Op: 191, Dst: 6, Src: 1})
	for i := range uint8(10) {
		if i != 1 && i != 6 && d.r.IntN(8) > 0 {
			d.number(i, d.num())
		}
	}
	for off := int16(-128); off < 0; off += 8 {
		if d.r.IntN(30) > 0 {
			d.add(api.Insn{Op: 122, Dst: 10, Off: off, Imm: one[int32](d.r, 0, 1, 2, 3)})
		}
	}
}

// number puts a number in a register.
func (d *drawer) number(dst uint8, n uint64) {
	d.add(api.Insn{Op: 24, Dst: dst, Imm: int32(n)}, api.Insn{Imm: int32(n >> 32)})
}

// piece draws some instructions that belong together.
func (d *drawer) piece() {
	switch d.r.IntN(12) {
	case 0, 1, 2:
		d.arith()
	case 3:
		d.number(uint8(d.r.IntN(10)), d.num())
	case 4, 5, 6:
		d.memory()
	case 7, 8:
		d.branch()
	case 9, 10:
		d.helper()
	case 11:
		d.seldom()
	}
}

// imm is a number of an instruction.
func (d *drawer) imm() int32 { return int32(d.num()) }

// reg is a register that may be changed.
func (d *drawer) reg() uint8 { return uint8(d.r.IntN(10)) }

// arith draws arithmetic, and bytes turned about.
func (d *drawer) arith() {
	op := one[uint8](d.r, 0x00, 0x10, 0x20, 0x30, 0x40, 0x50, 0x60, 0x70, 0x80, 0x90, 0xa0, 0xb0, 0xc0, 0xd0)
	class := one[uint8](d.r, 4, 7)
	x := api.Insn{Op: op | class, Dst: d.reg()}
	switch {
	case op == 0xd0:
		x = api.Insn{Op: one[uint8](d.r, 212, 220, 215), Dst: d.reg(), Imm: one[int32](d.r, 16, 32, 64)}
	case op != 0x80 && d.r.IntN(2) == 0:
		x.Op |= 8
		x.Src = uint8(d.r.IntN(11))
		if op == 0xb0 {
			x.Off = one[int16](d.r, 0, 0, 8, 16)
		}
		if op == 0xb0 && class == 7 {
			x.Off = one[int16](d.r, 0, 0, 8, 16, 32)
		}
	case op != 0x80:
		x.Imm = d.imm()
	}
	if op == 0x30 || op == 0x90 {
		x.Off = one[int16](d.r, 0, 1)
	}
	d.add(x)
}

// memory draws what goes to memory, or comes from there.
func (d *drawer) memory() {
	base := one[uint8](d.r, 10, 10, 10, 10, 6, 6, d.reg())
	off := one(d.r, int16(-8*d.r.IntN(17)), int16(-8*d.r.IntN(17)), int16(-8*d.r.IntN(17)), int16(-d.r.IntN(140)), -512, -513, -520)
	if base != 10 {
		off = one(d.r, int16(d.r.IntN(20)), 56, 60, 63, 64, -1)
	}
	if d.r.IntN(3) > 0 && base == 10 {
		off = -8 * int16(1+d.r.IntN(16))
	}
	switch d.r.IntN(4) {
	case 0:
		d.add(api.Insn{Op: one[uint8](d.r, 97, 105, 113, 121, 129, 137, 145), Dst: d.reg(), Src: base, Off: off})
	case 1:
		d.add(api.Insn{Op: one[uint8](d.r, 98, 106, 114, 122), Dst: base, Off: off, Imm: d.imm()})
	case 2:
		d.add(api.Insn{Op: one[uint8](d.r, 99, 107, 115, 123), Dst: base, Src: uint8(d.r.IntN(11)), Off: off})
	case 3:
		d.add(api.Insn{Op: one[uint8](d.r, 195, 219), Dst: base, Src: uint8(d.r.IntN(11)), Off: off, Imm: one[int32](d.r, 0, 64, 80, 160)})
	}
}

// branch draws a jump, or a branch; aim tells it where to.
func (d *drawer) branch() {
	op := one[uint8](d.r, 0x10, 0x20, 0x30, 0x40, 0x50, 0x60, 0x70, 0xa0, 0xb0, 0xc0, 0xd0) | one[uint8](d.r, 5, 6)
	x := api.Insn{Op: op, Dst: uint8(d.r.IntN(11)), Imm: d.imm()}
	if d.r.IntN(2) == 0 {
		x = api.Insn{Op: op | 8, Dst: x.Dst, Src: uint8(d.r.IntN(11))}
	}
	if d.r.IntN(6) == 0 {
		x = api.Insn{Op: one[uint8](d.r, 5, 6)}
	}
	d.add(x)
}

// helper draws a call, mostly with what it must be told; the register behind it is looked at, too.
func (d *drawer) helper() {
	id := one[int32](d.r, 1, 1, 1, 2, 2, 2, 3, 3, 5, 6, 7, 8)
	if len(d.e.Defs) == 0 {
		id = one[int32](d.r, 5, 6, 6, 7, 8)
	}
	if id < 4 {
		d.add(api.Insn{Op: 24, Dst: 1, Src: 1, Imm: d.r.Int32N(int32(len(d.e.Defs)))}, api.Insn{})
		d.add(api.Insn{Op: 191, Dst: 2, Src: 10}, api.Insn{Op: 7, Dst: 2, Imm: -8 * (2 + d.r.Int32N(14))})
		d.add(api.Insn{Op: 191, Dst: 3, Src: 10}, api.Insn{Op: 7, Dst: 3, Imm: -64 - 8*d.r.Int32N(8)})
		d.add(api.Insn{Op: 183, Dst: 4, Imm: one[int32](d.r, 0, 0, 0, 1, 2, 3, -1)})
	} else if id == 6 {
		d.number(1, d.num())
		d.number(2, d.num())
	}
	if d.r.IntN(20) == 0 {
		i := d.r.IntN(2)
		d.add(api.Insn{Op: 24, Dst: uint8(1 + d.r.IntN(4)), Src: uint8(i), Imm: d.r.Int32N(3)}, api.Insn{Imm: int32(1-i) * d.r.Int32N(4)})
	}
	d.add(api.Insn{Op: 133, Imm: id})
	if id == 1 {
		d.add(api.Insn{Op: 21, Dst: 0, Off: 1}, api.Insn{Op: one[uint8](d.r, 97, 121), Dst: 7, Src: 0})
		d.add(api.Insn{Op: 21, Dst: 0, Off: 1}, api.Insn{Op: one[uint8](d.r, 219, 123, 99, 107), Dst: 0, Src: 8, Off: one[int16](d.r, 0, 0, 2, 6)})
	}
}

// seldom draws what mostly ends a program.
func (d *drawer) seldom() {
	switch d.r.IntN(5) {
	case 0:
		d.add(api.Insn{Op: 149})
	case 1:
		d.add(api.Insn{Op: 133, Imm: one[int32](d.r, 0, 1, 2, 3, 4, 5, 6, 7, 8, 9, -1)})
	case 2:
		d.add(api.Insn{Op: 24, Dst: d.reg(), Src: 1, Imm: d.r.Int32N(5)}, api.Insn{})
	}
}

// aim gives jumps, but those that have one, a target: mostly not far, and mostly behind them.
func (d *drawer) aim() {
	var begins []int
	for i := 0; i < len(d.l); i = code.Next(d.l, i) {
		begins = append(begins, i)
	}
	for n, i := range begins {
		x := &d.l[i]
		if class := x.Op & 7; class != 5 && class != 6 || x.Op == 133 || x.Op == 149 || x.Off != 0 {
			continue
		}
		to := max(0, min(len(begins)-1, n+one(d.r, 1, 2, 3, 4, 8, 1, 2, 3, 0, -1, -3, -30)))
		if x.Op == 6 {
			x.Imm = int32(begins[to] - i - 1)
		} else {
			x.Off = int16(begins[to] - i - 1)
		}
	}
}

// alike asks of a machine what its model has.
func alike(t *testing.T, m *machine.Machine, o *model) {
	t.Helper()
	if m.At() != o.at || m.Over() != o.over {
		t.Fatalf("at %d, over %t; want %d, %t", m.At(), m.Over(), o.at, o.over)
	}
	for i := range uint8(11) {
		want, set := o.regs[i]
		if n, ok := m.Reg(int(i)); n != want || ok != set {
			t.Fatalf("at %d: Reg(%d) = %#x, %t; want %#x, %t", o.at, i, n, ok, want, set)
		}
	}
}

// P11.2, P11.3, P11.4: programs that are drawn do, step by step, what the model does, and end as it does, at once or in parts, whatever the fuel is.
func TestDrawnPrograms(t *testing.T) {
	r := rand.New(rand.NewPCG(11, 2))
	codes, helpers, kinds := map[api.Errno]int{}, map[int]int{}, map[uint8]int{}
	for range 6000 {
		l, e := drawn(r)
		m, wrong := machine.New(l, e)
		if wrong != api.OK {
			t.Fatalf("New of %v, %v = %d", l, e, wrong)
		}
		o := newModel(l, e)
		for range 150 {
			w, _ := code.What(l[o.at])
			kinds[w.Kind]++
			got, want := m.Step(), o.step()
			if got != want {
				t.Fatalf("step at %d of %v = %d; want %d", o.at, l, got, want)
			}
			alike(t, m, o)
			if want == api.ErrOver {
				break
			}
		}
		end := o.run(150)
		if got := m.Run(150); !sameEnd(got, end) {
			t.Fatalf("%v ends %v; want %v", l, got, end)
		}
		codes[end.Code]++
		for _, c := range end.Calls {
			helpers[c.Id]++
		}
		inParts(t, r, l, e, end)
	}
	t.Log(codes, helpers, kinds)
	for _, code := range []api.Errno{api.OK, api.ErrFault, api.ErrBlank, api.ErrFixed, api.ErrDry, api.ErrUnset, api.ErrFuel, api.ErrHelper, api.ErrTold} {
		if codes[code] < 20 {
			t.Errorf("%d programs ended with %d", codes[code], code)
		}
	}
	for _, id := range []int{1, 2, 3, 5, 6, 7, 8} {
		if helpers[id] < 100 {
			t.Errorf("helper %d was called %d times", id, helpers[id])
		}
	}
	for kind := api.Arith; kind <= api.Exit; kind++ {
		if kinds[kind] < 500 {
			t.Errorf("%d instructions of kind %d", kinds[kind], kind)
		}
	}
}

// inParts runs a program once more, in parts, by Run and Step.
func inParts(t *testing.T, r *rand.Rand, l []api.Insn, e api.Env, want api.End) {
	t.Helper()
	m, _ := machine.New(l, e)
	o := newModel(l, e)
	for fuel := r.IntN(20); fuel < 150; fuel += 1 + r.IntN(40) {
		if got, part := m.Run(fuel), o.run(fuel); !sameEnd(got, part) {
			t.Fatalf("%v with fuel %d ends %v; want %v", l, fuel, got, part)
		}
		if r.IntN(3) == 0 {
			if got, part := m.Step(), o.step(); got != part {
				t.Fatalf("%v: a step behind fuel %d = %d; want %d", l, fuel, got, part)
			}
		}
	}
	if got := m.Run(150); !sameEnd(got, want) {
		t.Fatalf("%v in parts ends %v; want %v", l, got, want)
	}
}
