package machine_test

import (
	"math"
	"slices"
	"testing"

	"hackle/api"
	"hackle/machine"
)

// behind asks which registers a helper leaves: 1 to 5 unset, others as they were, and what it told.
func behind(t *testing.T, m *machine.Machine, ret uint64) {
	t.Helper()
	has(t, m, 0, ret, true)
	for i := 1; i < 6; i++ {
		has(t, m, i, 0, false)
	}
	for i := 6; i < 10; i++ {
		has(t, m, i, uint64(i), true)
	}
	has(t, m, 10, stack+512, true)
}

// upper puts their own numbers in registers 5 to 9.
func upper() []api.Insn { return prog(mov(5, 5), mov(6, 6), mov(7, 7), mov(8, 8), mov(9, 9)) }

// calls asks of what a helper was told, told, and left.
func calls(t *testing.T, e api.Env, want []api.Called, maps [][]api.Item, parts ...[]api.Insn) {
	t.Helper()
	l := prog(parts...)
	m := made(t, e, l, exit())
	end := m.Run(5000)
	if end.Code != api.OK || end.R0 != want[len(want)-1].Ret || !sameCalls(end.Calls, want) || !slices.EqualFunc(end.Maps, maps, sameItems) {
		t.Errorf("%v ends %v; want OK, calls %v, maps %v", l, end, want, maps)
	}
	behind(t, m, want[len(want)-1].Ret)
}

// items are a map's, of keys of one byte.
func items(l ...byte) []api.Item {
	var all []api.Item
	for i := 0; i < len(l); i += 2 {
		all = append(all, api.Item{Key: []byte{l[i]}, Val: fill(8, l[i+1])})
	}
	return all
}

// P11.2: look, of a key that is there, and of one that is not.
func TestLook(t *testing.T) {
	e := api.Env{Defs: []api.Def{numbered(8, 1), hash(1, 8, 2)}, Items: [][]api.Item{nil, items(7, 1, 5, 2)}}
	maps := [][]api.Item{{{Key: fill(4, 0), Val: fill(8, 0)}}, items(5, 2, 7, 1)}
	for key, ret := range map[byte]uint64{7: vals + 1024<<32, 5: vals + 1025<<32, 6: 0} {
		calls(t, e, []api.Called{{Id: 1, Map: 1, Key: []byte{key}, Ret: ret}}, maps, holding(8, 0x9900+uint64(key)), upper(), word(1, 1), at(2, 8), call(1))
	}
	for key, ret := range map[uint64]uint64{0: vals, 1: 0, 1 << 24: 0, 1 << 32: vals} {
		calls(t, e, []api.Called{{Id: 1, Key: []byte{byte(key), 0, 0, byte(key >> 24)}, Ret: ret}}, maps, holding(8, key), upper(), word(1, 0), at(2, 8), call(1))
	}
}

// P11.2: put: a new value, another one, and what it tells where it does nothing; the number is the flags.
func TestPut(t *testing.T) {
	e := api.Env{Defs: []api.Def{hash(1, 8, 2), hash(1, 8, 2)}, Items: [][]api.Item{items(1, 1), items(7, 1)}}
	for _, c := range []struct {
		key   byte
		flags uint64
		ret   uint64
		want  []api.Item
	}{
		{7, 0, 0, items(7, 9)}, {7, 1, neg(17), items(7, 1)}, {7, 2, 0, items(7, 9)}, {7, 3, neg(22), items(7, 1)},
		{5, 0, 0, items(5, 9, 7, 1)}, {5, 1, 0, items(5, 9, 7, 1)}, {5, 2, neg(2), items(7, 1)}, {5, 1 << 32, neg(22), items(7, 1)}, {5, math.MaxUint64, neg(22), items(7, 1)},
	} {
		told := []api.Called{{Id: 2, Map: 1, Key: []byte{c.key}, Val: fill(8, 9), N: []uint64{c.flags}, Ret: c.ret}}
		calls(t, e, told, [][]api.Item{items(1, 1), c.want}, holding(8, uint64(c.key)), holding(16, 0x0909090909090909), upper(), word(1, 1), at(2, 8), at(3, 16), long(4, c.flags), call(2))
	}
	e.Defs[1].Max = 1
	told := []api.Called{{Id: 2, Map: 1, Key: []byte{5}, Val: fill(8, 9), N: []uint64{0}, Ret: neg(7)}}
	calls(t, e, told, [][]api.Item{items(1, 1), items(7, 1)}, holding(8, 5), holding(16, 0x0909090909090909), upper(), word(1, 1), at(2, 8), at(3, 16), long(4, 0), call(2))
}

// P11.2: drop, of a key that is there, that is not, and of a numbered map.
func TestDrop(t *testing.T) {
	e := api.Env{Defs: []api.Def{hash(1, 8, 2), numbered(8, 1)}, Items: [][]api.Item{items(7, 1, 5, 2)}}
	zero := []api.Item{{Key: fill(4, 0), Val: fill(8, 0)}}
	calls(t, e, []api.Called{{Id: 3, Key: []byte{7}}}, [][]api.Item{items(5, 2), zero}, holding(8, 7), upper(), word(1, 0), at(2, 8), call(3))
	calls(t, e, []api.Called{{Id: 3, Key: []byte{6}, Ret: neg(2)}}, [][]api.Item{items(5, 2, 7, 1), zero}, holding(8, 6), upper(), word(1, 0), at(2, 8), call(3))
	calls(t, e, []api.Called{{Id: 3, Map: 1, Key: fill(4, 0), Ret: neg(22)}}, [][]api.Item{items(5, 2, 7, 1), zero}, holding(8, 0), upper(), word(1, 1), at(2, 8), call(3))
}

// P11.2: note, of any two numbers.
func TestNote(t *testing.T) {
	for _, n := range []uint64{0, 1, words, stack, 1 << 63, math.MaxUint64} {
		calls(t, api.Env{}, []api.Called{{Id: 6, N: []uint64{n, 3}}}, nil, mov(0, 9), upper(), long(1, n), mov(2, 3), mov(3, 3), mov(4, 4), call(6))
	}
}

// P11.2: those that draw: what is left, one behind the other, as far as each tells; then ErrDry.
func TestDraws(t *testing.T) {
	e := api.Env{Draws: []uint64{130, math.MaxUint64, 1<<40 + 70, 3}}
	told := []api.Called{{Id: 8, Ret: 2}, {Id: 5, Ret: math.MaxUint64}, {Id: 7, Ret: 70}, {Id: 8, Ret: 3}}
	calls(t, e, told, nil, upper(), mov(4, 1), call(8), call(5), mov(1, 1), call(7), mov(5, 1), call(8))
	end := made(t, e, call(8), call(5), call(7), call(8), call(5), exit()).Run(100)
	if !sameEnd(end, api.End{Code: api.ErrDry, At: 4, Steps: 4, Calls: told}) {
		t.Errorf("what draws more than there is ends %v", end)
	}
	for _, id := range []int32{5, 7, 8} {
		ends(t, api.Env{}, api.End{Code: api.ErrDry}, call(id), exit())
		ends(t, api.Env{Draws: e.Draws[:0]}, api.End{Code: api.ErrDry}, call(id), exit())
	}
	// Those that do not draw leave what is left.
	calls(t, e, []api.Called{{Id: 6, N: []uint64{1, 2}}, {Id: 5, Ret: 130}}, nil, upper(), mov(1, 1), mov(2, 2), call(6), call(5))
}

// P11.2: ErrHelper of helpers that are none, whatever the registers are.
func TestHelperOfNone(t *testing.T) {
	for _, id := range []int32{0, 4, 9, 10, 16, 69, 257, 1 << 16, 1<<16 + 1, math.MaxInt32, -1, -2, -255, math.MinInt32, math.MinInt32 + 1} {
		fails(t, api.Env{Draws: []uint64{1}}, api.ErrHelper, 1, mov(0, 1), call(id), exit())
	}
}

// P11.2: what a helper is told, one by one: each register must be set, and be what Told says, ahead of the next.
func TestToldInOrder(t *testing.T) {
	e := of(hash(4, 16, 1), numbered(8, 1))
	map0, map1, none := words, words+1, words+2
	blank, full, out := stack, stack+496, stack+509
	for _, c := range []struct {
		id   int32
		regs []int // -1: unset
		want api.Errno
	}{
		{1, nil, api.ErrUnset}, {2, nil, api.ErrUnset}, {3, nil, api.ErrUnset}, {6, nil, api.ErrUnset},
		{1, []int{none}, api.ErrTold}, {2, []int{none}, api.ErrTold}, {3, []int{none}, api.ErrTold}, {1, []int{0}, api.ErrTold}, {1, []int{1}, api.ErrTold}, {1, []int{words - 1}, api.ErrTold}, {1, []int{ctx}, api.ErrTold},
		{1, []int{words + 1<<32}, api.ErrTold}, {1, []int{words + 1<<31}, api.ErrTold}, {1, []int{none, full}, api.ErrTold}, {2, []int{none, -1, -1, -1}, api.ErrTold},
		{1, []int{map0}, api.ErrUnset}, {1, []int{map1}, api.ErrUnset}, {1, []int{map0, -1, full, 0}, api.ErrUnset}, {1, []int{-1, full}, api.ErrUnset}, {1, []int{-1, out}, api.ErrUnset},
		{1, []int{map0, blank}, api.ErrBlank}, {1, []int{map0, out}, api.ErrFault}, {1, []int{map0, out - 1}, api.OK}, {1, []int{map0, full}, api.OK}, {3, []int{map0, blank}, api.ErrBlank}, {3, []int{map1, out}, api.ErrFault}, {3, []int{map1, out - 1}, api.OK},
		{1, []int{map0, 0}, api.ErrFault}, {1, []int{map0, map0}, api.ErrFault}, {1, []int{map0, full - 1}, api.ErrBlank},
		{2, []int{map0, blank}, api.ErrBlank}, {2, []int{map0, out, blank, 0}, api.ErrFault}, {2, []int{map0, full}, api.ErrUnset}, {2, []int{map0, full, -1, 0}, api.ErrUnset}, {2, []int{map0, -1, out, 0}, api.ErrUnset},
		{2, []int{map0, full, blank}, api.ErrBlank}, {2, []int{map0, full, out}, api.ErrFault}, {2, []int{map0, full, full + 1, 0}, api.ErrFault}, {2, []int{map0, full, full - 1, 0}, api.ErrBlank},
		{2, []int{map0, full, full}, api.ErrUnset}, {2, []int{map0, full, full, 0}, api.OK}, {2, []int{map0, full, full, 100}, api.OK}, {2, []int{map1, full, full + 8, 0}, api.OK}, {2, []int{map1, full, full + 9, 0}, api.ErrFault},
		{6, []int{-1, 1}, api.ErrUnset}, {6, []int{1}, api.ErrUnset}, {6, []int{1, 2}, api.OK},
	} {
		// Helper 6 leaves registers 1 to 5 unset.
		ahead := prog(holding(16, 1), holding(8, 2), mov(1, 1), mov(2, 1), call(6))
		for i, n := range c.regs {
			if n >= 0 {
				ahead = append(ahead, long(uint8(i+1), uint64(n))...)
			}
		}
		end := made(t, e, ahead, call(c.id), exit()).Run(100)
		where, made := len(ahead), 1
		if c.want == api.OK {
			where, made = where+1, 2
		}
		if end.Code != c.want || end.At != where || len(end.Calls) != made {
			t.Errorf("helper %d of %v: %d at %d, %d calls; want %d at %d, %d calls", c.id, c.regs, end.Code, end.At, len(end.Calls), c.want, where, made)
		}
	}
}

// P11.2: keys and values are read of any memory: of what is given, and of maps; what a map is told of its own value is as it was.
func TestToldFromAnywhere(t *testing.T) {
	e := api.Env{Ctx: []byte{5, 0, 0, 0, 7, 1, 2, 3, 4, 5, 6, 7}, Defs: []api.Def{hash(1, 8, 2)}, Items: [][]api.Item{items(5, 5)}}
	val := api.Item{Key: []byte{7}, Val: []byte{7, 1, 2, 3, 4, 5, 6, 7}}
	calls(t, e, []api.Called{{Id: 2, Key: []byte{7}, Val: val.Val, N: []uint64{1}}}, [][]api.Item{{items(5, 5)[0], val}}, upper(), word(1, 0), long(2, ctx+4), long(3, ctx+4), mov(4, 1), call(2))
	calls(t, e, []api.Called{{Id: 2, Key: []byte{5}, Val: fill(8, 5), N: []uint64{2}}}, [][]api.Item{items(5, 5)}, upper(), word(1, 0), long(2, vals), long(3, vals), mov(4, 2), call(2))
}

// P11.2, P11.3: what is stored in a value is in the map; a value of a key that was dropped may still be stored in; and no more than 1024 values ever come to be.
func TestValuesInMemory(t *testing.T) {
	e := api.Env{Defs: []api.Def{hash(1, 8, 1)}, Items: [][]api.Item{items(5, 5)}}
	stored := prog(long(6, vals), []api.Insn{{Op: 122, Dst: 6, Imm: 0x01010101}})
	one := []api.Item{{Key: []byte{5}, Val: []byte{1, 1, 1, 1, 0, 0, 0, 0}}}
	ends(t, e, api.End{At: 4, Steps: 4, Maps: [][]api.Item{one}}, stored, mov(0, 0), exit())
	end := made(t, e, holding(8, 5), word(1, 0), at(2, 8), call(3), stored, loading(vals, 4), exit()).Run(100)
	if end.Code != api.OK || end.R0 != 0x01010101 || len(end.Maps[0]) != 0 {
		t.Errorf("what was dropped ends %v", end)
	}
	turn := prog(word(1, 0), at(2, 8), call(3), word(1, 0), at(2, 8), at(3, 8), mov(4, 0), call(2))
	turn = append(turn, api.Insn{Op: 21, Imm: 0, Off: -int16(len(turn)) - 1})
	end = made(t, e, holding(8, 5), turn, exit()).Run(100000)
	if end.Code != api.OK || end.R0 != neg(12) || len(end.Calls) != 2048 || len(end.Maps[0]) != 0 {
		t.Errorf("more values than may be: %d, %d, %d calls, %v", end.Code, int64(end.R0), len(end.Calls), end.Maps)
	}
}
