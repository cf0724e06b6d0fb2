package machine_test

import (
	"bytes"
	"math"
	"slices"
	"testing"

	"hackle/api"
	"hackle/machine"
)

// Where areas begin, and the words of maps.
const (
	ctx   = 1 << 32
	stack = 2 << 32
	words = 3 << 32
	vals  = 4096 << 32
)

// exit is an Exit.
func exit() []api.Insn { return []api.Insn{{Op: 149}} }

// mov puts a small number in a register.
func mov(dst uint8, n int32) []api.Insn { return []api.Insn{{Op: 183, Dst: dst, Imm: n}} }

// copies puts what is in a register in another one.
func copies(dst, src uint8) []api.Insn { return []api.Insn{{Op: 191, Dst: dst, Src: src}} }

// long puts a number of 64 bits in a register.
func long(dst uint8, n uint64) []api.Insn {
	return []api.Insn{{Op: 24, Dst: dst, Imm: int32(n)}, {Imm: int32(n >> 32)}}
}

// word puts the word of a map in a register.
func word(dst uint8, i int32) []api.Insn {
	return []api.Insn{{Op: 24, Dst: dst, Src: 1, Imm: i}, {}}
}

// call calls a helper.
func call(id int32) []api.Insn { return []api.Insn{{Op: 133, Imm: id}} }

// holding puts eight bytes on the stack, so far below its end.
func holding(below int16, n uint64) []api.Insn {
	return slices.Concat(long(9, n), []api.Insn{{Op: 123, Dst: 10, Src: 9, Off: -below}})
}

// at puts where the stack is, so far below its end, in a register.
func at(dst uint8, below int32) []api.Insn {
	return slices.Concat(copies(dst, 10), []api.Insn{{Op: 7, Dst: dst, Imm: -below}})
}

// prog is parts, one behind the other.
func prog(parts ...[]api.Insn) []api.Insn { return slices.Concat(parts...) }

// made is a machine of what may be.
func made(t *testing.T, e api.Env, parts ...[]api.Insn) *machine.Machine {
	t.Helper()
	m, wrong := machine.New(prog(parts...), e)
	if m == nil || wrong != api.OK {
		t.Fatalf("New(%v, %v) = %v, %d; want a machine, OK", prog(parts...), e, m, wrong)
	}
	return m
}

// ends asks how a program ends, and answers its machine.
func ends(t *testing.T, e api.Env, want api.End, parts ...[]api.Insn) *machine.Machine {
	t.Helper()
	m := made(t, e, parts...)
	if got := m.Run(5000); !sameEnd(got, want) {
		t.Errorf("%v ends %v; want %v", prog(parts...), got, want)
	}
	return m
}

// fails asks where a program fails, and with which error, what it did ahead of that aside.
func fails(t *testing.T, e api.Env, code api.Errno, where int, parts ...[]api.Insn) {
	t.Helper()
	end := made(t, e, parts...).Run(5000)
	if end.Code != code || end.At != where || end.R0 != 0 {
		t.Errorf("%v ends with %d at %d, R0 %d; want %d at %d, R0 0", prog(parts...), end.Code, end.At, end.R0, code, where)
	}
}

// gives asks of register 0 behind a program to which an Exit is added.
func gives(t *testing.T, e api.Env, want uint64, parts ...[]api.Insn) {
	t.Helper()
	end := made(t, e, prog(parts...), exit()).Run(5000)
	if end.Code != api.OK || end.R0 != want {
		t.Errorf("%v ends with %d, R0 %#x; want OK, R0 %#x", prog(parts...), end.Code, end.R0, want)
	}
}

// has asks of a register.
func has(t *testing.T, m *machine.Machine, i int, want uint64, set bool) {
	t.Helper()
	if n, ok := m.Reg(i); n != want || ok != set {
		t.Errorf("Reg(%d) = %#x, %t; want %#x, %t", i, n, ok, want, set)
	}
}

// steps asks what Step tells, and where the machine is then.
func steps(t *testing.T, m *machine.Machine, want api.Errno, where int, over bool) {
	t.Helper()
	if e := m.Step(); e != want || m.At() != where || m.Over() != over {
		t.Errorf("Step = %d, at %d, over %t; want %d, at %d, over %t", e, m.At(), m.Over(), want, where, over)
	}
}

// hash and numbered are maps.
func hash(key, val, max int) api.Def { return api.Def{Hash: true, Key: key, Val: val, Max: max} }
func numbered(val, max int) api.Def  { return api.Def{Key: 4, Val: val, Max: max} }

// fill is n bytes that are all b.
func fill(n int, b byte) []byte { return bytes.Repeat([]byte{b}, n) }

// of is a program's maps.
func of(l ...api.Def) api.Env { return api.Env{Defs: l} }

// TestExamples: the chapter's examples.
func TestExamples(t *testing.T) {
	m := ends(t, api.Env{}, api.End{R0: 7, At: 1, Steps: 2}, mov(0, 7), exit())
	has(t, m, 0, 7, true)
	ends(t, api.Env{}, api.End{Code: api.ErrUnset}, exit())
}

// TestTheWhole: of the document's ten examples what a machine tells.
func TestTheWhole(t *testing.T) {
	given := api.Env{Ctx: []byte{1, 0, 0, 0, 2, 0, 0, 0}}
	ends(t, given, api.End{R0: 1, At: 1, Steps: 2}, []api.Insn{{Op: 0x61, Src: 1}}, exit())
	ends(t, given, api.End{Code: api.ErrFault}, []api.Insn{{Op: 0x79, Src: 1, Off: 4}}, exit())
	ends(t, given, api.End{Code: api.ErrDry}, call(8), exit())
	l := prog(
		[]api.Insn{{Op: 0x62, Dst: 10, Off: -4, Imm: 1}}, word(1, 0), copies(2, 10), []api.Insn{{Op: 7, Dst: 2, Imm: -4}},
		call(1), []api.Insn{{Op: 0x15, Off: 1}, {Op: 0x79}}, exit(),
	)
	given.Defs = []api.Def{numbered(8, 2)}
	zeros := [][]api.Item{{{Key: []byte{0, 0, 0, 0}, Val: fill(8, 0)}, {Key: []byte{1, 0, 0, 0}, Val: fill(8, 0)}}}
	told := []api.Called{{Id: 1, Key: []byte{1, 0, 0, 0}, Ret: vals + 1<<32}}
	ends(t, given, api.End{At: 8, Steps: 8, Calls: told, Maps: zeros}, l)
	given.Defs[0].Max = 1
	told[0].Ret = 0
	ends(t, given, api.End{At: 8, Steps: 7, Calls: told, Maps: [][]api.Item{zeros[0][:1]}}, l)
}

// wrongs are what New refuses, each for one thing.
func wrongs() map[string]func() ([]api.Insn, api.Env) {
	ok := prog(mov(0, 1), exit())
	item := func(key, val int) api.Item { return api.Item{Key: fill(key, 0), Val: fill(val, 0)} }
	env := func(e api.Env) func() ([]api.Insn, api.Env) {
		return func() ([]api.Insn, api.Env) { return ok, e }
	}
	l := func(l ...api.Insn) func() ([]api.Insn, api.Env) {
		return func() ([]api.Insn, api.Env) { return l, api.Env{} }
	}
	three := []api.Item{{Key: []byte{1}, Val: fill(8, 1)}, {Key: []byte{2}, Val: fill(8, 2)}, {Key: []byte{3}, Val: fill(8, 3)}}
	return map[string]func() ([]api.Insn, api.Env){
		"no instructions":         l(),
		"too many instructions":   l(slices.Concat(slices.Repeat(mov(0, 1), 512), exit())...),
		"an instruction":          l(api.Insn{Op: 255}, api.Insn{Op: 149}),
		"what changes 10":         l(api.Insn{Op: 183, Dst: 10}, api.Insn{Op: 149}),
		"what swaps 10":           l(api.Insn{Op: 220, Dst: 10, Imm: 16}, api.Insn{Op: 149}),
		"what loads 10":           l(api.Insn{Op: 121, Dst: 10, Src: 1}, api.Insn{Op: 149}),
		"register 11":             l(api.Insn{Op: 191, Dst: 0, Src: 11}, api.Insn{Op: 149}),
		"half an instruction":     l(api.Insn{Op: 24}, api.Insn{Op: 149}),
		"a jump":                  l(api.Insn{Op: 5, Off: 2}, api.Insn{Op: 149}),
		"its end":                 l(api.Insn{Op: 149}, api.Insn{Op: 183}),
		"65 bytes":                env(api.Env{Ctx: fill(65, 0)}),
		"1024 bytes":              env(api.Env{Ctx: fill(1024, 0)}),
		"1025 bytes":              env(api.Env{Ctx: fill(1025, 0)}),
		"a map of nothing":        env(of(api.Def{})),
		"a map's key":             env(of(hash(17, 8, 1))),
		"a numbered map's key":    env(of(api.Def{Key: 8, Val: 8, Max: 1})),
		"a map's value":           env(of(hash(1, 9, 1))),
		"a map's values":          env(of(hash(1, 8, 17))),
		"the second map":          env(of(hash(1, 8, 1), hash(1, 72, 1))),
		"nine maps":               env(of(slices.Repeat([]api.Def{hash(1, 8, 1)}, 9)...)),
		"lists without maps":      env(api.Env{Items: [][]api.Item{{}}}),
		"more lists than maps":    env(api.Env{Defs: []api.Def{hash(1, 8, 1)}, Items: [][]api.Item{nil, nil}}),
		"a key":                   env(api.Env{Defs: []api.Def{hash(2, 8, 1)}, Items: [][]api.Item{{item(1, 8)}}}),
		"a value":                 env(api.Env{Defs: []api.Def{hash(2, 8, 1)}, Items: [][]api.Item{{item(2, 16)}}}),
		"no key, no value":        env(api.Env{Defs: []api.Def{hash(2, 8, 1)}, Items: [][]api.Item{{{}}}}),
		"too many values":         env(api.Env{Defs: []api.Def{hash(1, 8, 2)}, Items: [][]api.Item{three}}),
		"a number":                env(api.Env{Defs: []api.Def{numbered(8, 1)}, Items: [][]api.Item{{{Key: []byte{1, 0, 0, 0}, Val: fill(8, 0)}}}}),
		"the second list":         env(api.Env{Defs: []api.Def{hash(1, 8, 3), hash(1, 8, 2)}, Items: [][]api.Item{three, three}}),
		"the second list's value": env(api.Env{Defs: []api.Def{hash(1, 8, 3), hash(1, 8, 2)}, Items: [][]api.Item{three, {three[0], item(1, 7)}}}),
		"all of it": func() ([]api.Insn, api.Env) {
			return nil, api.Env{Ctx: fill(65, 0), Defs: []api.Def{{}}, Items: [][]api.Item{{{}}, {{}}}}
		},
	}
}

// P11.1: what New refuses.
func TestNewRefuses(t *testing.T) {
	for name, given := range wrongs() {
		l, e := given()
		if m, wrong := machine.New(l, e); m != nil || wrong != api.ErrArg {
			t.Errorf("%s: New = %v, %d; want nil, ErrArg", name, m, wrong)
		}
	}
}

// P11.1: what is just not too much; nothing is kept of one list for another one.
func TestNewOfTheMost(t *testing.T) {
	end := made(t, api.Env{}, slices.Repeat(mov(0, 1), 511), exit()).Run(512)
	if end.Code != api.OK || end.Steps != 512 || end.At != 511 {
		t.Errorf("512 instructions end %v", end)
	}
	three := []api.Item{{Key: []byte{3}, Val: fill(8, 1)}, {Key: []byte{1}, Val: fill(8, 2)}, {Key: []byte{2}, Val: fill(8, 3)}}
	e := api.Env{
		Ctx:   fill(64, 3),
		Defs:  slices.Concat([]api.Def{hash(1, 8, 3), numbered(16, 16)}, slices.Repeat([]api.Def{hash(1, 8, 3)}, 6)),
		Items: [][]api.Item{three, {}, nil, three},
	}
	sorted := []api.Item{three[1], three[2], three[0]}
	var many []api.Item
	for n := range byte(16) {
		many = append(many, api.Item{Key: []byte{n, 0, 0, 0}, Val: fill(16, 0)})
	}
	ends(t, e, api.End{R0: 0x0303030303030303, At: 1, Steps: 2, Maps: [][]api.Item{sorted, many, nil, sorted, nil, nil, nil, nil}}, []api.Insn{{Op: 121, Src: 1, Off: 56}}, exit())
	for _, l := range [][][]api.Item{nil, {}, {nil}, {{}}} {
		ends(t, api.Env{Ctx: []byte{}, Defs: []api.Def{hash(1, 8, 1)}, Items: l, Draws: []uint64{}}, api.End{R0: 7, At: 1, Steps: 2, Maps: make([][]api.Item, 1)}, mov(0, 7), exit())
	}
}

// P11.1: items are put in order, with flags 0: of a key twice the last value is there, and a numbered map's values are put, too.
func TestItemsInOrder(t *testing.T) {
	e := api.Env{Defs: []api.Def{hash(1, 8, 1), numbered(8, 2)}, Items: [][]api.Item{
		{{Key: []byte{5}, Val: fill(8, 1)}, {Key: []byte{5}, Val: fill(8, 2)}, {Key: []byte{5}, Val: fill(8, 3)}},
		{{Key: []byte{1, 0, 0, 0}, Val: fill(8, 4)}},
	}}
	ends(t, e, api.End{R0: 0, At: 1, Steps: 2, Maps: [][]api.Item{
		{{Key: []byte{5}, Val: fill(8, 3)}},
		{{Key: []byte{0, 0, 0, 0}, Val: fill(8, 0)}, {Key: []byte{1, 0, 0, 0}, Val: fill(8, 4)}},
	}}, mov(0, 0), exit())
	// Of each list the slots come to be in its order.
	e = api.Env{Defs: []api.Def{hash(1, 8, 3)}, Items: [][]api.Item{{{Key: []byte{9}, Val: fill(8, 1)}, {Key: []byte{4}, Val: fill(8, 2)}}}}
	gives(t, e, vals+1<<32, holding(8, 4), word(1, 0), at(2, 8), call(1))
	gives(t, e, vals, holding(8, 9), word(1, 0), at(2, 8), call(1))
}

// P11.1: a machine ahead of its program: its place, and its registers.
func TestNewMachine(t *testing.T) {
	for _, e := range []api.Env{{}, {Ctx: fill(64, 1), Defs: []api.Def{hash(1, 8, 1)}, Draws: []uint64{1}}} {
		m := made(t, e, exit())
		if m.At() != 0 || m.Over() {
			t.Errorf("a new machine: At %d, Over %t; want 0, false", m.At(), m.Over())
		}
		for i := range 11 {
			switch i {
			case 1:
				has(t, m, i, ctx, true)
			case 10:
				has(t, m, i, stack+512, true)
			default:
				has(t, m, i, 0, false)
			}
		}
		for _, i := range []int{-1, 11, 12, 255, 256, 257, 1 << 32, 1<<32 + 1, math.MinInt, math.MinInt + 1, math.MaxInt} {
			has(t, m, i, 0, false)
		}
	}
}

// loading loads so many bytes from a place into register 0.
func loading(from uint64, size int) []api.Insn {
	return prog(long(6, from), []api.Insn{{Op: map[int]uint8{4: 97, 2: 105, 1: 113, 8: 121}[size], Src: 6}})
}

// storing stores the lowest so many bytes of 0x1122334455667788 at a place.
func storing(to uint64, size int) []api.Insn {
	return prog(long(6, to), long(7, 0x1122334455667788), []api.Insn{{Op: map[int]uint8{4: 99, 2: 107, 1: 115, 8: 123}[size], Dst: 6, Src: 7}})
}

// P11.1: memory at first: area 1 is what is given, fixed; area 2 is 512 blank bytes; the maps' areas; none else.
func TestMemoryAtFirst(t *testing.T) {
	e := api.Env{Ctx: []byte{1, 2, 3, 4, 5, 6, 7, 8, 9}, Defs: []api.Def{hash(1, 8, 1), numbered(16, 2)}, Items: [][]api.Item{{{Key: []byte{1}, Val: fill(8, 5)}}}}
	gives(t, e, 0x0807060504030201, loading(ctx, 8))
	gives(t, e, 0x0908070605040302, loading(ctx+1, 8))
	fails(t, e, api.ErrFault, 2, loading(ctx+2, 8), exit())
	fails(t, e, api.ErrFault, 2, loading(ctx-1, 1), exit())
	fails(t, e, api.ErrFixed, 4, storing(ctx, 1), exit())
	fails(t, e, api.ErrFixed, 4, storing(ctx+8, 1), exit())
	fails(t, e, api.ErrFault, 4, storing(ctx+9, 1), exit())
	fails(t, api.Env{}, api.ErrFault, 2, loading(ctx, 1), exit())
	for _, off := range []uint64{0, 1, 100, 504, 511} {
		fails(t, e, api.ErrBlank, 2, loading(stack+off, 1), exit())
		gives(t, e, 0x88, storing(stack+off, 1), loading(stack+off, 1))
	}
	gives(t, e, 0x1122334455667788, storing(stack+504, 8), loading(stack+504, 8))
	fails(t, e, api.ErrFault, 4, storing(stack+505, 8), exit())
	fails(t, e, api.ErrFault, 4, storing(stack+512, 1), exit())
	fails(t, e, api.ErrFault, 4, storing(stack-1, 1), exit())
	gives(t, e, 0x0505050505050505, loading(vals, 8))
	fails(t, e, api.ErrFault, 2, loading(vals+8, 1), exit())
	fails(t, e, api.ErrFault, 2, loading(vals+1<<32, 1), exit())
	for _, slot := range []uint64{1024, 1025} {
		gives(t, e, 0, loading(vals+slot<<32+8, 8))
		gives(t, e, 0x1122334455667788, storing(vals+slot<<32+8, 8), loading(vals+slot<<32+8, 8))
		fails(t, e, api.ErrFault, 2, loading(vals+slot<<32+9, 8), exit())
	}
	fails(t, e, api.ErrFault, 2, loading(vals+1026<<32, 1), exit())
	for _, place := range []uint64{0, 1, words, words + 1, 5 << 32, 1 << 63, math.MaxUint64} {
		fails(t, e, api.ErrFault, 2, loading(place, 1), exit())
		fails(t, e, api.ErrFault, 4, storing(place, 1), exit())
	}
}

// P11.2: arithmetic, by hand: of both kinds of numbers, wide and narrow, with a register and with the instruction's number.
func TestArith(t *testing.T) {
	for _, c := range []struct {
		op         uint8
		off        int16
		a, b, want uint64
		narrow     uint64
	}{
		{op: api.Add, a: 1<<32 + 5, b: 7, want: 1<<32 + 12, narrow: 12},
		{op: api.Add, a: 5, b: math.MaxUint64, want: 4, narrow: 4},
		{op: api.Sub, a: 5, b: 7, want: math.MaxUint64 - 1, narrow: math.MaxUint32 - 1},
		{op: api.Mul, a: 1<<31 + 1, b: 6, want: 6<<31 + 6, narrow: 6},
		{op: api.Mul, a: 3, b: math.MaxUint64 - 1, want: math.MaxUint64 - 5, narrow: math.MaxUint32 - 5},
		{op: api.Div, a: 100, b: 7, want: 14, narrow: 14},
		{op: api.Div, a: 100, b: 0, want: 0, narrow: 0},
		{op: api.Div, a: 100, b: math.MaxUint64 - 6, want: 0, narrow: 0},
		{op: api.Div, off: 1, a: 100, b: math.MaxUint64 - 6, want: math.MaxUint64 - 13, narrow: math.MaxUint32 - 13},
		{op: api.Mod, a: 100, b: 7, want: 2, narrow: 2},
		{op: api.Mod, a: 1<<32 + 100, b: 0, want: 1<<32 + 100, narrow: 100},
		{op: api.Mod, off: 1, a: math.MaxUint64 - 99, b: 7, want: math.MaxUint64 - 1, narrow: math.MaxUint32 - 1},
		{op: api.Or, a: 12, b: 10, want: 14, narrow: 14},
		{op: api.And, a: 1<<40 + 12, b: math.MaxUint64 - 3, want: 1<<40 + 12, narrow: 12},
		{op: api.Xor, a: 12, b: math.MaxUint64, want: math.MaxUint64 - 12, narrow: math.MaxUint32 - 12},
		{op: api.Lsh, a: 3, b: 35, want: 3 << 35, narrow: 24},
		{op: api.Rsh, a: 0xf0f0f0f0f0f0f0f0, b: 4, want: 0x0f0f0f0f0f0f0f0f, narrow: 0x0f0f0f0f},
		{op: api.Arsh, a: 0xf0f0f0f0f0f0f0f0, b: 4, want: 0xff0f0f0f0f0f0f0f, narrow: 0xff0f0f0f},
		{op: api.Mov, a: 9, b: math.MaxUint64 - 4, want: math.MaxUint64 - 4, narrow: math.MaxUint32 - 4},
	} {
		reg := api.Insn{Op: c.op | 15, Src: 5, Off: c.off}
		num := api.Insn{Op: c.op | 7, Off: c.off, Imm: int32(c.b)}
		for _, x := range []api.Insn{reg, num} {
			gives(t, api.Env{}, c.want, long(0, c.a), long(5, c.b), []api.Insn{x})
			x.Op -= 3
			gives(t, api.Env{}, c.narrow, long(0, c.a), long(5, c.b), []api.Insn{x})
		}
	}
	gives(t, api.Env{}, math.MaxUint64-4, long(0, 5), []api.Insn{{Op: 0x87}})
	gives(t, api.Env{}, math.MaxUint32-4, long(0, 5), []api.Insn{{Op: 0x84}})
	gives(t, api.Env{}, 1<<40+1<<20, long(0, 1<<40+1<<19), []api.Insn{{Op: 0x07, Imm: 1 << 19}})
}

// P11.2: a Mov of some bits alone.
func TestMovSigned(t *testing.T) {
	for _, c := range []struct {
		op   uint8
		off  int16
		want uint64
	}{
		{191, 0, 0x1122334485868788}, {191, 8, math.MaxUint64 - 0x77}, {191, 16, math.MaxUint64 - 0x7877}, {191, 32, 0xffffffff85868788},
		{188, 0, 0x85868788}, {188, 8, math.MaxUint32 - 0x77}, {188, 16, math.MaxUint32 - 0x7877},
	} {
		gives(t, api.Env{}, c.want, long(5, 0x1122334485868788), []api.Insn{{Op: c.op, Src: 5, Off: c.off}})
	}
}

// P11.2: bytes turned about, or cut.
func TestSwaps(t *testing.T) {
	for _, c := range []struct {
		op   uint8
		imm  int32
		want uint64
	}{
		{212, 16, 0x7788}, {212, 32, 0x55667788}, {212, 64, 0x1122334455667788},
		{220, 16, 0x8877}, {220, 32, 0x88776655}, {220, 64, 0x8877665544332211},
		{215, 16, 0x8877}, {215, 32, 0x88776655}, {215, 64, 0x8877665544332211},
	} {
		gives(t, api.Env{}, c.want, long(0, 0x1122334455667788), []api.Insn{{Op: c.op, Imm: c.imm}})
	}
}

// P11.2: a number of 64 bits, and the word of a map, or ErrTold, if there is none; both take two places.
func TestNumberAndTable(t *testing.T) {
	for _, n := range []uint64{0, 1, 1 << 31, 1 << 32, 1 << 63, math.MaxUint32, math.MaxUint64, 0x8000000080000000, 0x0123456789abcdef} {
		gives(t, api.Env{}, n, long(0, n))
	}
	e := of(hash(1, 8, 1), hash(1, 8, 1), numbered(8, 1))
	for i := range int32(3) {
		m := made(t, e, word(7, i), exit())
		steps(t, m, api.OK, 2, false)
		has(t, m, 7, words+uint64(i), true)
	}
	for _, i := range []int32{3, 4, 8, math.MaxInt32} {
		fails(t, e, api.ErrTold, 1, mov(0, 1), word(7, i), exit())
	}
	fails(t, api.Env{}, api.ErrTold, 0, word(7, 0), exit())
}

// P11.2: what is loaded, of each size, signed or not, and how far off.
func TestLoad(t *testing.T) {
	e := api.Env{Ctx: []byte{1, 0, 0x81, 0x82, 0x83, 0x84, 0x85, 0x86, 0x87, 0x88, 0x7f, 1, 2, 3, 4, 5, 6, 7}}
	for _, c := range []struct {
		op   uint8
		off  int16
		want uint64
	}{
		{97, 2, 0x84838281}, {105, 2, 0x8281}, {113, 2, 0x81}, {121, 2, 0x8887868584838281},
		{129, 2, 0xffffffff84838281}, {137, 2, 0xffffffffffff8281}, {145, 2, 0xffffffffffffff81},
		{129, 7, 0x7f888786}, {137, 9, 0x7f88}, {145, 10, 0x7f}, {113, 0, 1}, {113, 17, 7}, {121, 10, 0x070605040302017f},
	} {
		gives(t, e, c.want, []api.Insn{{Op: c.op, Src: 1, Off: c.off}})
		gives(t, e, c.want, long(6, ctx+1000), []api.Insn{{Op: c.op, Src: 6, Off: c.off - 1000}})
		gives(t, e, c.want, long(0, ctx-1000), []api.Insn{{Op: c.op, Src: 0, Off: c.off + 1000}})
	}
	fails(t, e, api.ErrFault, 0, []api.Insn{{Op: 113, Src: 1, Off: -1}}, exit())
	fails(t, e, api.ErrFault, 0, []api.Insn{{Op: 113, Src: 1, Off: 18}}, exit())
	fails(t, e, api.ErrFault, 0, []api.Insn{{Op: 145, Src: 1, Off: 18}}, exit())
	fails(t, e, api.ErrBlank, 0, []api.Insn{{Op: 113, Src: 10, Off: -1}}, exit())
	fails(t, e, api.ErrFault, 2, long(6, math.MaxUint64), []api.Insn{{Op: 113, Src: 6, Off: 1}}, exit())
}

// P11.2: what is stored, of each size: a number of the instruction, and a register.
func TestStore(t *testing.T) {
	eight := slices.Concat(long(7, 0x1122334455667788), []api.Insn{{Op: 123, Dst: 10, Src: 7, Off: -8}})
	for _, c := range []struct {
		x    api.Insn
		want uint64
	}{
		{api.Insn{Op: 98, Imm: -2}, 0x11223344fffffffe}, {api.Insn{Op: 106, Imm: -2}, 0x112233445566fffe}, {api.Insn{Op: 114, Imm: -2}, 0x11223344556677fe}, {api.Insn{Op: 122, Imm: -2}, 0xfffffffffffffffe},
		{api.Insn{Op: 122, Imm: 0x12345678}, 0x12345678}, {api.Insn{Op: 98, Imm: 0x12345678}, 0x1122334412345678},
		{api.Insn{Op: 99, Src: 5}, 0x11223344abcdef01}, {api.Insn{Op: 107, Src: 5}, 0x112233445566ef01}, {api.Insn{Op: 115, Src: 5}, 0x1122334455667701}, {api.Insn{Op: 123, Src: 5}, 0x99887766abcdef01},
	} {
		x := c.x
		x.Dst, x.Off = 10, -8
		gives(t, api.Env{}, c.want, eight, long(5, 0x99887766abcdef01), []api.Insn{x, {Op: 121, Src: 10, Off: -8}})
		x.Dst, x.Off = 6, 100
		gives(t, api.Env{}, c.want, eight, long(5, 0x99887766abcdef01), at(6, 108), []api.Insn{x, {Op: 121, Src: 10, Off: -8}})
	}
	for _, op := range []uint8{98, 106, 114, 122, 99, 107, 115, 123} {
		x := api.Insn{Op: op, Dst: 10}
		if op&7 == 3 {
			x.Src = 1
		}
		fails(t, api.Env{Ctx: fill(8, 0)}, api.ErrFault, 0, []api.Insn{x}, exit())
		x.Dst = 1
		fails(t, api.Env{Ctx: fill(8, 0)}, api.ErrFixed, 0, []api.Insn{x}, exit())
		fails(t, api.Env{}, api.ErrFault, 0, []api.Insn{x}, exit())
	}
}

// P11.2: an Atom: a register into what is in memory, of both sizes; it changes no register.
func TestAtom(t *testing.T) {
	for _, c := range []struct {
		imm                  int32
		was, n, small, large uint64
	}{
		{0, 0x11223344fffffffe, 0x9999999900000003, 0x1122334400000001, 0xaabbccde00000001},
		{64, 0x11223344fffffff8, 0x9999999900000003, 0x11223344fffffffb, 0x99bbbbddfffffffb},
		{80, 0x11223344fffffffc, 0x9999999900000007, 0x1122334400000004, 0x1100110000000004},
		{160, 0x11223344fffffff8, 0x9999999900000003, 0x11223344fffffffb, 0x88bbaaddfffffffb},
	} {
		for op, want := range map[uint8]uint64{195: c.small, 219: c.large} {
			m := made(t, api.Env{}, holding(16, c.was), long(5, c.n), []api.Insn{{Op: op, Dst: 10, Src: 5, Off: -16, Imm: c.imm}, {Op: 121, Src: 10, Off: -16}}, exit())
			if end := m.Run(100); end.Code != api.OK || end.R0 != want {
				t.Errorf("Atom %d of %d: %d, %#x; want OK, %#x", op, c.imm, end.Code, end.R0, want)
			}
			has(t, m, 5, c.n, true)
			has(t, m, 10, stack+512, true)
		}
	}
	given := api.Env{Ctx: fill(16, 1)}
	for _, op := range []uint8{195, 219} {
		fails(t, given, api.ErrBlank, 0, []api.Insn{{Op: op, Dst: 10, Src: 1, Off: -8}}, exit())
		fails(t, given, api.ErrFault, 0, []api.Insn{{Op: op, Dst: 10, Src: 1}}, exit())
		fails(t, given, api.ErrFixed, 0, []api.Insn{{Op: op, Dst: 1, Src: 1, Off: 8}}, exit())
		fails(t, given, api.ErrFault, 0, []api.Insn{{Op: op, Dst: 1, Src: 1, Off: 16}}, exit())
	}
}

// P11.2: jumps, ahead and back, of both kinds.
func TestJump(t *testing.T) {
	gives(t, api.Env{}, 1, []api.Insn{{Op: 5, Off: 1}}, mov(0, 2), mov(0, 1))
	gives(t, api.Env{}, 1, []api.Insn{{Op: 6, Imm: 1}}, mov(0, 2), mov(0, 1))
	gives(t, api.Env{}, 3, []api.Insn{{Op: 5, Off: 1}, {Op: 5, Off: 1}, {Op: 6, Imm: -2}}, mov(0, 3))
	gives(t, api.Env{}, 4, []api.Insn{{Op: 5}, {Op: 6}}, mov(0, 4))
	m := made(t, api.Env{}, mov(0, 1), []api.Insn{{Op: 5, Off: -2}})
	steps(t, m, api.OK, 1, false)
	steps(t, m, api.OK, 0, false)
	steps(t, m, api.OK, 1, false)
}

// P11.2: branches, of each condition, wide and narrow, with a register and with a number.
func TestBranch(t *testing.T) {
	const less = math.MaxUint64 - 4
	for _, c := range []struct {
		op   uint8
		a, b uint64
		want bool
	}{
		{api.Jeq, 5, 5, true}, {api.Jeq, 5, 6, false}, {api.Jeq, less, less, true}, {api.Jne, 5, 6, true}, {api.Jne, 5, 5, false},
		{api.Jgt, 6, 5, true}, {api.Jgt, 5, 5, false}, {api.Jgt, less, 5, true}, {api.Jgt, 5, less, false}, {api.Jge, 5, 5, true}, {api.Jge, 4, 5, false},
		{api.Jlt, 4, 5, true}, {api.Jlt, 5, 5, false}, {api.Jlt, 5, less, true}, {api.Jle, 5, 5, true}, {api.Jle, 6, 5, false},
		{api.Jsgt, 5, less, true}, {api.Jsgt, less, 5, false}, {api.Jsge, less, less, true}, {api.Jsge, less, 5, false},
		{api.Jslt, less, 5, true}, {api.Jslt, 5, less, false}, {api.Jsle, less, less, true}, {api.Jsle, 5, less, false},
		{api.Jset, 6, 2, true}, {api.Jset, 5, 2, false}, {api.Jset, less, 1 << 30, true},
	} {
		want := uint64(2)
		if c.want {
			want = 1
		}
		for _, class := range []uint8{5, 6} {
			for _, x := range []api.Insn{{Op: c.op | class, Dst: 6, Off: 1, Imm: int32(c.b)}, {Op: c.op | class | 8, Dst: 6, Src: 7, Off: 1}} {
				gives(t, api.Env{}, want, mov(0, 1), long(6, c.a), long(7, c.b), []api.Insn{x}, mov(0, 2))
			}
		}
	}
	// Only the lowest 32 bits are narrow; the number of an instruction is one of 64 bits.
	for _, c := range []struct {
		x    api.Insn
		want uint64
	}{
		{api.Insn{Op: 0x16, Dst: 6, Off: 1, Imm: 7}, 1}, {api.Insn{Op: 0x15, Dst: 6, Off: 1, Imm: 7}, 2}, {api.Insn{Op: 0x25, Dst: 6, Off: 1, Imm: -1}, 2}, {api.Insn{Op: 0x65, Dst: 6, Off: 1, Imm: -1}, 1},
		{api.Insn{Op: 0x45, Dst: 6, Off: 1, Imm: -8}, 1}, {api.Insn{Op: 0x46, Dst: 6, Off: 1, Imm: -8}, 2}, {api.Insn{Op: 0x1d, Dst: 6, Src: 6, Off: 1}, 1}, {api.Insn{Op: 0x5d, Dst: 6, Src: 6, Off: 1}, 2},
	} {
		gives(t, api.Env{}, c.want, mov(0, 1), long(6, 1<<40+7), []api.Insn{c.x}, mov(0, 2))
	}
}

// row is an instruction, and which registers it reads.
type row struct {
	x     api.Insn
	reads []uint8
}

// readers are instructions of all kinds but calls.
func readers() []row {
	l := []row{
		{api.Insn{Op: 149}, []uint8{0}}, {api.Insn{Op: 212, Dst: 3, Imm: 16}, []uint8{3}}, {api.Insn{Op: 215, Dst: 3, Imm: 64}, []uint8{3}},
		{api.Insn{Op: 0x87, Dst: 3}, []uint8{3}}, {api.Insn{Op: 0x84, Dst: 3}, []uint8{3}},
		{api.Insn{Op: 0xb7, Dst: 3}, nil}, {api.Insn{Op: 0xb4, Dst: 3}, nil}, {api.Insn{Op: 0xbf, Dst: 3, Src: 4}, []uint8{4}}, {api.Insn{Op: 0xbc, Dst: 3, Src: 4, Off: 8}, []uint8{4}},
		{api.Insn{Op: 5}, nil}, {api.Insn{Op: 6}, nil},
		{api.Insn{Op: 195, Dst: 3, Src: 4}, []uint8{3, 4}}, {api.Insn{Op: 219, Dst: 3, Src: 4, Imm: 160}, []uint8{3, 4}},
	}
	for _, op := range []uint8{api.Add, api.Sub, api.Mul, api.Div, api.Or, api.And, api.Lsh, api.Rsh, api.Mod, api.Xor, api.Arsh} {
		for _, class := range []uint8{4, 7} {
			l = append(l, row{api.Insn{Op: op | class, Dst: 3, Imm: 1}, []uint8{3}}, row{api.Insn{Op: op | class | 8, Dst: 3, Src: 4}, []uint8{3, 4}})
		}
	}
	for _, op := range []uint8{97, 105, 113, 121, 129, 137, 145} {
		l = append(l, row{api.Insn{Op: op, Dst: 3, Src: 4}, []uint8{4}})
	}
	for _, op := range []uint8{98, 106, 114, 122} {
		l = append(l, row{api.Insn{Op: op, Dst: 3}, []uint8{3}}, row{api.Insn{Op: op | 1, Dst: 3, Src: 4}, []uint8{3, 4}})
	}
	for _, op := range []uint8{api.Jeq, api.Jgt, api.Jge, api.Jset, api.Jne, api.Jsgt, api.Jsge, api.Jlt, api.Jle, api.Jslt, api.Jsle} {
		for _, class := range []uint8{5, 6} {
			l = append(l, row{api.Insn{Op: op | class, Dst: 3}, []uint8{3}}, row{api.Insn{Op: op | class | 8, Dst: 3, Src: 4}, []uint8{3, 4}})
		}
	}
	return l
}

// P11.2: what is read must be set, ahead of all other errors; what is not read may be unset.
func TestUnset(t *testing.T) {
	for _, c := range readers() {
		// Of what is set nothing is memory.
		var all []api.Insn
		for _, i := range c.reads {
			all = append(all, mov(i, 5)...)
		}
		if end := made(t, api.Env{}, all, []api.Insn{c.x}, exit()).Run(len(c.reads) + 1); end.Code == api.ErrUnset {
			t.Errorf("%v with all that it reads: ErrUnset", c.x)
		}
		for n := range c.reads {
			fails(t, api.Env{}, api.ErrUnset, 1, mov(9, 1), []api.Insn{c.x}, exit())
			fails(t, api.Env{}, api.ErrUnset, len(all)-1, slices.Delete(slices.Clone(all), n, n+1), []api.Insn{c.x}, exit())
		}
	}
}

// P11.2: with an error nothing is changed, but the machine is over, at that place; what is over does nothing.
func TestNothingChangesByAnError(t *testing.T) {
	e := api.Env{Ctx: fill(8, 1), Defs: []api.Def{hash(1, 8, 1), numbered(8, 1)}, Items: [][]api.Item{{{Key: []byte{1}, Val: fill(8, 2)}}}}
	ahead := prog(long(0, 70), long(2, 72), long(3, 73), long(4, 74), long(5, 75), long(7, vals+4), long(8, vals))
	for _, c := range []struct {
		x    api.Insn
		want api.Errno
	}{
		{api.Insn{Op: 121, Dst: 2, Src: 7}, api.ErrFault}, {api.Insn{Op: 121, Dst: 2, Src: 10, Off: -8}, api.ErrBlank}, {api.Insn{Op: 123, Dst: 7, Src: 2}, api.ErrFault}, {api.Insn{Op: 122, Dst: 1}, api.ErrFixed},
		{api.Insn{Op: 219, Dst: 1, Src: 2}, api.ErrFixed}, {api.Insn{Op: 219, Dst: 7, Src: 2}, api.ErrFault}, {api.Insn{Op: 15, Dst: 2, Src: 9}, api.ErrUnset}, {api.Insn{Op: 29, Dst: 2, Src: 9, Off: -1}, api.ErrUnset},
		{api.Insn{Op: 133, Imm: 1}, api.ErrTold}, {api.Insn{Op: 133, Imm: 2}, api.ErrTold}, {api.Insn{Op: 133, Imm: 4}, api.ErrHelper}, {api.Insn{Op: 133, Imm: 7}, api.ErrDry}, {api.Insn{Op: 24, Dst: 2, Src: 1, Imm: 2}, api.ErrTold},
	} {
		l := prog(ahead, []api.Insn{c.x})
		if c.x.Op == 24 {
			l = append(l, api.Insn{})
		}
		m := made(t, e, l, exit())
		for range 7 {
			m.Step()
		}
		steps(t, m, c.want, 14, true)
		for range 3 {
			steps(t, m, api.ErrOver, 14, true)
		}
		for i, want := range []uint64{70, ctx, 72, 73, 74, 75} {
			has(t, m, i, want, true)
		}
		has(t, m, 7, vals+4, true)
		has(t, m, 8, vals, true)
		has(t, m, 6, 0, false)
		has(t, m, 9, 0, false)
		has(t, m, 10, stack+512, true)
		want := api.End{Code: c.want, At: 14, Steps: 7, Maps: [][]api.Item{e.Items[0], {{Key: fill(4, 0), Val: fill(8, 0)}}}}
		for _, fuel := range []int{math.MinInt, 0, 7, 100, math.MaxInt} {
			if got := m.Run(fuel); !sameEnd(got, want) {
				t.Errorf("Run(%d) behind %v = %v; want %v", fuel, c.x, got, want)
			}
		}
	}
}

// P11.2: the end: register 0 is read; the machine is over, at that place.
func TestExit(t *testing.T) {
	m := made(t, api.Env{}, long(0, 1<<63), exit(), mov(0, 1), exit())
	steps(t, m, api.OK, 2, false)
	steps(t, m, api.OK, 2, true)
	steps(t, m, api.ErrOver, 2, true)
	has(t, m, 0, 1<<63, true)
	for _, fuel := range []int{math.MinInt, -1, 0, 1, 2, 3, math.MaxInt} {
		if got := m.Run(fuel); !sameEnd(got, api.End{R0: 1 << 63, At: 2, Steps: 2}) {
			t.Errorf("Run(%d) behind an Exit = %v", fuel, got)
		}
	}
	m = made(t, api.Env{}, exit(), exit())
	steps(t, m, api.ErrUnset, 0, true)
	steps(t, m, api.ErrOver, 0, true)
}
