package machine_test

import (
	"bytes"
	"maps"
	"math/bits"
	"slices"

	"hackle/alu"
	"hackle/api"
)

// cell is a byte of memory.
type cell struct {
	b          byte
	put, fixed bool
}

// keyed is what is in a map: where the values of its keys are, and how many values ever came to be.
type keyed struct {
	at   map[string]uint64
	came int
}

// model is the chapter once more, straight from bytes of instructions, over memory that is a map of bytes. It panics by an api.Errno, ahead of any change.
type model struct {
	l     []api.Insn
	defs  []api.Def
	regs  map[uint8]uint64
	cells map[uint64]cell
	maps  []keyed
	draws []uint64
	at    int
	over  bool
	end   api.End
}

// newModel is a model of what may be.
func newModel(l []api.Insn, e api.Env) *model {
	m := &model{l: l, defs: e.Defs, cells: map[uint64]cell{}, draws: e.Draws, regs: map[uint8]uint64{1: 1 << 32, 10: 2<<32 + 512}}
	for i, b := range e.Ctx {
		m.cells[1<<32+uint64(i)] = cell{b, true, true}
	}
	for i := range uint64(512) {
		m.cells[2<<32+i] = cell{}
	}
	for i, d := range e.Defs {
		m.maps = append(m.maps, keyed{at: map[string]uint64{}})
		for n := range d.Max {
			if !d.Hash {
				m.come(i, string([]byte{byte(n), 0, 0, 0}), make([]byte, d.Val))
			}
		}
	}
	for i, items := range e.Items {
		for _, x := range items {
			m.mapPut(i, string(x.Key), x.Val, 0)
		}
	}
	return m
}

// come gives a key the next value of a map.
func (m *model) come(i int, key string, val []byte) {
	at := uint64(4096+1024*i+m.maps[i].came) << 32
	for n, b := range val {
		m.cells[at+uint64(n)] = cell{b, true, false}
	}
	m.maps[i].at[key] = at
	m.maps[i].came++
}

// mapPut is layer 9's Put.
func (m *model) mapPut(i int, key string, val []byte, flags uint64) uint64 {
	at, there := m.maps[i].at[key]
	full := len(m.maps[i].at) >= m.defs[i].Max
	switch {
	case flags > 2:
		return neg(22)
	case there && flags == 1:
		return neg(17)
	case there:
		for n, b := range val {
			m.cells[at+uint64(n)] = cell{b, true, false}
		}
		return 0
	case m.defs[i].Hash && flags == 2:
		return neg(2)
	case full:
		return neg(7)
	case m.maps[i].came == 1024:
		return neg(12)
	}
	m.come(i, key, val)
	return 0
}

// mapDrop is layer 9's Drop.
func (m *model) mapDrop(i int, key string) uint64 {
	_, there := m.maps[i].at[key]
	switch {
	case !m.defs[i].Hash:
		return neg(22)
	case !there:
		return neg(2)
	}
	delete(m.maps[i].at, key)
	return 0
}

// read is so many bytes of memory.
func (m *model) read(at uint64, size int) []byte {
	var l []byte
	for i := range uint64(size) {
		if _, there := m.cells[at+i]; !there {
			panic(api.ErrFault)
		}
	}
	for i := range uint64(size) {
		if !m.cells[at+i].put {
			panic(api.ErrBlank)
		}
		l = append(l, m.cells[at+i].b)
	}
	return l
}

// load is a number from memory.
func (m *model) load(at uint64, size int) uint64 {
	n := uint64(0)
	for _, b := range slices.Backward(m.read(at, size)) {
		n = n*256 + uint64(b)
	}
	return n
}

// store puts a number to memory.
func (m *model) store(at uint64, size int, n uint64) {
	for i := range uint64(size) {
		if _, there := m.cells[at+i]; !there {
			panic(api.ErrFault)
		}
	}
	for i := range uint64(size) {
		if m.cells[at+i].fixed {
			panic(api.ErrFixed)
		}
	}
	for i := range uint64(size) {
		m.cells[at+i] = cell{byte(n >> (8 * i)), true, false}
	}
}

// reg is what is in a register that must be set.
func (m *model) reg(i uint8) uint64 {
	n, set := m.regs[i]
	if !set {
		panic(api.ErrUnset)
	}
	return n
}

// step does an instruction.
func (m *model) step() (e api.Errno) {
	if m.over {
		return api.ErrOver
	}
	defer func() {
		if r := recover(); r != nil {
			e = r.(api.Errno)
			m.over, m.end.Code = true, e
		}
	}()
	m.do(m.l[m.at])
	m.end.Steps++
	return api.OK
}

// do does it by its class.
func (m *model) do(x api.Insn) {
	switch x.Op & 7 {
	case 0:
		m.number(x)
	case 1:
		m.regs[x.Dst] = m.loaded(x)
		m.at++
	case 2:
		m.store(m.reg(x.Dst)+uint64(int64(x.Off)), sizeOf(x.Op), uint64(int64(x.Imm)))
		m.at++
	case 3:
		m.stored(x)
		m.at++
	case 4, 7:
		m.regs[x.Dst] = m.reckoned(x)
		m.at++
	default:
		m.gone(x)
	}
}

// sizeOf is how many bytes of memory an Op asks for.
func sizeOf(op uint8) int { return []int{4, 2, 1, 8}[op>>3&3] }

// number does the two that have another half.
func (m *model) number(x api.Insn) {
	if x.Src == 1 {
		if int(x.Imm) >= len(m.defs) {
			panic(api.ErrTold)
		}
		m.regs[x.Dst] = 3<<32 + uint64(x.Imm)
	} else {
		m.regs[x.Dst] = uint64(uint32(m.l[m.at+1].Imm))<<32 | uint64(uint32(x.Imm))
	}
	m.at += 2
}

// loaded is what a Load makes of a register.
func (m *model) loaded(x api.Insn) uint64 {
	n := m.load(m.reg(x.Src)+uint64(int64(x.Off)), sizeOf(x.Op))
	if x.Op&0xe0 != 0x80 {
		return n
	}
	switch sizeOf(x.Op) {
	case 1:
		return uint64(int64(int8(n)))
	case 2:
		return uint64(int64(int16(n)))
	}
	return uint64(int64(int32(n)))
}

// stored does a Put and an Atom.
func (m *model) stored(x api.Insn) {
	dst, src := m.reg(x.Dst), m.reg(x.Src)
	at, size := dst+uint64(int64(x.Off)), sizeOf(x.Op)
	if x.Op&0xe0 == 0xc0 {
		was := m.load(at, size)
		src = map[int32]uint64{0: was + src, 64: was | src, 80: was & src, 160: was ^ src}[x.Imm]
	}
	m.store(at, size, src)
}

// reckoned is what arithmetic makes of a register.
func (m *model) reckoned(x api.Insn) uint64 {
	if x.Op&0xf0 == 0xd0 {
		return swapped(x, m.reg(x.Dst))
	}
	a, b := uint64(0), uint64(int64(x.Imm))
	if x.Op&0xf0 != 0xb0 {
		a = m.reg(x.Dst)
	}
	if x.Op&8 != 0 {
		b = m.reg(x.Src)
	}
	n, _ := alu.Do(x.Op&0xf0, x.Op&7 == 7, x.Off, a, b)
	return n
}

// swapped is a register turned about, or cut: 212 cuts.
func swapped(x api.Insn, n uint64) uint64 {
	turned := map[int32]uint64{16: uint64(bits.ReverseBytes16(uint16(n))), 32: uint64(bits.ReverseBytes32(uint32(n))), 64: bits.ReverseBytes64(n)}
	cut := map[int32]uint64{16: uint64(uint16(n)), 32: uint64(uint32(n)), 64: n}
	if x.Op == 212 {
		return cut[x.Imm]
	}
	return turned[x.Imm]
}

// gone does what goes elsewhere, calls, and ends.
func (m *model) gone(x api.Insn) {
	switch x.Op {
	case 5:
		m.at += 1 + int(x.Off)
	case 6:
		m.at += 1 + int(x.Imm)
	case 133:
		m.call(x.Imm)
		m.at++
	case 149:
		m.end.R0 = m.reg(0)
		m.over = true
	default:
		a, b := m.reg(x.Dst), uint64(int64(x.Imm))
		if x.Op&8 != 0 {
			b = m.reg(x.Src)
		}
		m.at++
		if holds(x.Op, a, b) {
			m.at += int(x.Off)
		}
	}
}

// holds tells whether the condition of a Branch holds.
func holds(op uint8, a, b uint64) bool {
	c, d := int64(a), int64(b)
	if op&7 == 6 {
		a, b = uint64(uint32(a)), uint64(uint32(b))
		c, d = int64(int32(a)), int64(int32(b))
	}
	return map[uint8]bool{
		0x10: a == b, 0x20: a > b, 0x30: a >= b, 0x40: a&b > 0, 0x50: a != b, 0x60: c > d,
		0x70: c >= d, 0xa0: a < b, 0xb0: a <= b, 0xc0: c < d, 0xd0: c <= d,
	}[op&0xf0]
}

// table is the map whose word a register has.
func (m *model) table(reg uint8) int {
	n := m.reg(reg)
	for i := range m.defs {
		if n == 3<<32+uint64(i) {
			return i
		}
	}
	panic(api.ErrTold)
}

// call does what a helper does.
func (m *model) call(id int32) {
	c := api.Called{Id: int(id)}
	switch id {
	case 1, 2, 3:
		c.Map = m.table(1)
		c.Key = m.read(m.reg(2), m.defs[c.Map].Key)
		if id == 2 {
			c.Val = m.read(m.reg(3), m.defs[c.Map].Val)
			c.N = []uint64{m.reg(4)}
		}
	case 6:
		c.N = []uint64{m.reg(1), m.reg(2)}
	case 5, 7, 8:
		if len(m.draws) == 0 {
			panic(api.ErrDry)
		}
	default:
		panic(api.ErrHelper)
	}
	switch id {
	case 1:
		c.Ret = m.maps[c.Map].at[string(c.Key)]
	case 2:
		c.Ret = m.mapPut(c.Map, string(c.Key), c.Val, c.N[0])
	case 3:
		c.Ret = m.mapDrop(c.Map, string(c.Key))
	case 5, 7, 8:
		c.Ret = m.draws[0] & map[int32]uint64{5: 1<<64 - 1, 7: 1<<32 - 1, 8: 63}[id]
		m.draws = m.draws[1:]
	}
	for i := range uint8(5) {
		delete(m.regs, i+1)
	}
	m.regs[0] = c.Ret
	m.end.Calls = append(m.end.Calls, c)
}

// run is how it ends.
func (m *model) run(fuel int) api.End {
	for m.end.Steps < fuel && m.step() == api.OK {
	}
	end := m.end
	if !m.over {
		end.Code = api.ErrFuel
	}
	end.At = m.at
	end.Maps = make([][]api.Item, len(m.defs))
	for i, d := range m.defs {
		for _, key := range slices.Sorted(maps.Keys(m.maps[i].at)) {
			end.Maps[i] = append(end.Maps[i], api.Item{Key: []byte(key), Val: m.read(m.maps[i].at[key], d.Val)})
		}
	}
	return end
}

// sameCalls tells whether helpers were told the same, and told the same.
func sameCalls(a, b []api.Called) bool {
	return slices.EqualFunc(a, b, func(x, y api.Called) bool {
		return x.Id == y.Id && x.Map == y.Map && x.Ret == y.Ret && bytes.Equal(x.Key, y.Key) && bytes.Equal(x.Val, y.Val) && slices.Equal(x.N, y.N)
	})
}

// sameItems tells whether two lists have the same items.
func sameItems(a, b []api.Item) bool {
	return slices.EqualFunc(a, b, func(x, y api.Item) bool { return bytes.Equal(x.Key, y.Key) && bytes.Equal(x.Val, y.Val) })
}

// sameEnd tells whether two programs ended the same.
func sameEnd(a, b api.End) bool {
	return a.Code == b.Code && a.At == b.At && a.R0 == b.R0 && a.Steps == b.Steps && sameCalls(a.Calls, b.Calls) && slices.EqualFunc(a.Maps, b.Maps, sameItems)
}

// neg is a number below 0, modulo 2^64.
func neg(n uint64) uint64 { return -n }
