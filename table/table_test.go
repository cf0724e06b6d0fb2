package table_test

import (
	"bytes"
	"cmp"
	"math"
	"math/rand/v2"
	"slices"
	"testing"

	"hackle/api"
	"hackle/mem"
	"hackle/table"
)

// What Put and Drop tell, below 0, as a number of 64 bits.
const (
	no2  = math.MaxUint64 - 1
	no7  = math.MaxUint64 - 6
	no12 = math.MaxUint64 - 11
	no17 = math.MaxUint64 - 16
	no22 = math.MaxUint64 - 21
)

// edges are numbers at which an int may be gone through wrongly.
var edges = []int{math.MinInt, math.MinInt + 1, -1 << 32, -1<<32 + 1, -8, -2, -1, 0, 1, 2, 7, 8, 9, 4096, 1 << 32, 1<<32 + 1, math.MaxInt - 1, math.MaxInt}

// hash is a map with any keys.
func hash(key, val, max int) api.Def { return api.Def{Hash: true, Key: key, Val: val, Max: max} }

// numbered is a map with numbers as keys.
func numbered(val, max int) api.Def { return api.Def{Key: 4, Val: val, Max: max} }

// fill is n bytes that are all b.
func fill(n int, b byte) []byte { return bytes.Repeat([]byte{b}, n) }

// num is a number as the key of a numbered map.
func num(n uint32) []byte { return []byte{byte(n), byte(n >> 8), byte(n >> 16), byte(n >> 24)} }

// made is maps that may be, and their memory.
func made(t *testing.T, l ...api.Def) (*table.Tables, *mem.Mem) {
	t.Helper()
	m := mem.New()
	x, e := table.New(m, l)
	if e != api.OK || x == nil {
		t.Fatalf("New(%v) = %v, %d; want maps, OK", l, x, e)
	}
	return x, m
}

// puts asks what Put tells.
func puts(t *testing.T, x *table.Tables, i int, key, val []byte, flags, want uint64, e api.Errno) {
	t.Helper()
	if n, got := x.Put(i, key, val, flags); n != want || got != e {
		t.Errorf("Put(%d, %v, %v, %d) = %d, %d; want %d, %d", i, key, val, flags, int64(n), got, int64(want), e)
	}
}

// looks asks what Look tells.
func looks(t *testing.T, x *table.Tables, i int, key []byte, want uint64, e api.Errno) {
	t.Helper()
	if n, got := x.Look(i, key); n != want || got != e {
		t.Errorf("Look(%d, %v) = %#x, %d; want %#x, %d", i, key, n, got, want, e)
	}
}

// drops asks what Drop tells.
func drops(t *testing.T, x *table.Tables, i int, key []byte, want uint64, e api.Errno) {
	t.Helper()
	if n, got := x.Drop(i, key); n != want || got != e {
		t.Errorf("Drop(%d, %v) = %d, %d; want %d, %d", i, key, int64(n), got, int64(want), e)
	}
}

// same tells whether two lists have the same items.
func same(a, b []api.Item) bool {
	return slices.EqualFunc(a, b, func(x, y api.Item) bool { return bytes.Equal(x.Key, y.Key) && bytes.Equal(x.Val, y.Val) })
}

// has asks a map's items.
func has(t *testing.T, x *table.Tables, i int, want ...api.Item) {
	t.Helper()
	if l := x.Items(i); !same(l, want) {
		t.Errorf("Items(%d) = %v; want %v", i, l, want)
	}
}

// holds asks an area's bytes.
func holds(t *testing.T, m *mem.Mem, area int, want []byte) {
	t.Helper()
	if b, ok := m.Area(area); !ok || !bytes.Equal(b, want) {
		t.Errorf("Area(%d) = %v, %t; want %v, true", area, b, ok, want)
	}
}

// holdsNone asks whether there is no area.
func holdsNone(t *testing.T, m *mem.Mem, area int) {
	t.Helper()
	if b, ok := m.Area(area); ok {
		t.Errorf("Area(%d) = %v, true; want none, false", area, b)
	}
}

// P9.2: the chapter's example.
func TestExample(t *testing.T) {
	x, _ := made(t, hash(1, 8, 1))
	puts(t, x, 0, []byte{5}, fill(8, 9), 0, 0, api.OK)
	puts(t, x, 0, []byte{6}, fill(8, 9), 0, no7, api.OK)
	looks(t, x, 0, []byte{6}, 0, api.OK)
	drops(t, x, 0, []byte{5}, 0, api.OK)
	drops(t, x, 0, []byte{5}, no2, api.OK)
}

// The chapter's words on Area: 4096, 1024 times i, and slot, together, of any numbers.
func TestArea(t *testing.T) {
	for _, c := range []struct{ i, slot, want int }{
		{0, 0, 4096}, {0, 1, 4097}, {0, 1023, 5119}, {0, 1024, 5120}, {1, 0, 5120}, {1, 15, 5135}, {7, 0, 11264}, {7, 1023, 12287},
		{-1, 0, 3072}, {0, -1, 4095}, {-4, 0, 0}, {-4, -1, -1}, {1 << 20, 5, 1<<30 + 4101}, {1 << 53, 0, math.MinInt + 4096}, {1 << 54, 3, 4099}, {0, math.MaxInt, math.MinInt + 4095}, {math.MinInt, math.MinInt, math.MinInt + 4096},
	} {
		if n := table.Area(c.i, c.slot); n != c.want {
			t.Errorf("Area(%d, %d) = %d; want %d", c.i, c.slot, n, c.want)
		}
	}
}

// rightDef is the chapter's words on one map, each number that may be told one by one.
func rightDef(d api.Def) bool {
	keys := []int{4}
	if d.Hash {
		keys = []int{1, 2, 3, 4, 5, 6, 7, 8, 9, 10, 11, 12, 13, 14, 15, 16}
	}
	return slices.Contains(keys, d.Key) && slices.Contains([]int{8, 16, 24, 32, 40, 48, 56, 64}, d.Val) &&
		slices.Contains([]int{1, 2, 3, 4, 5, 6, 7, 8, 9, 10, 11, 12, 13, 14, 15, 16}, d.Max)
}

// asksRight asks Right of maps, and whether New refuses such, with nothing made.
func asksRight(t *testing.T, want bool, l ...api.Def) {
	t.Helper()
	if got := table.Right(l); got != want {
		t.Errorf("Right(%v) = %t; want %t", l, got, want)
	}
	m := mem.New()
	x, e := table.New(m, l)
	if (e == api.OK) != want || (x != nil) != want || !want && e != api.ErrArg {
		t.Errorf("New(%v) = %v, %d; want that to be %t", l, x, e, want)
	}
	for slot := range 16 {
		if _, ok := m.Area(4096 + slot); ok && !want {
			t.Errorf("New(%v) made area %d", l, 4096+slot)
		}
	}
}

// P9.1: which maps may be, one by one.
func TestRightOfOne(t *testing.T) {
	var all []int
	for n := -3; n <= 70; n++ {
		all = append(all, n)
	}
	all = append(all, 72, 80, 128, 1024)
	all = append(all, edges...)
	for _, any := range []bool{false, true} {
		for _, n := range all {
			for _, d := range []api.Def{{Hash: any, Key: n, Val: 8, Max: 1}, {Hash: any, Key: 4, Val: n, Max: 16}, {Hash: any, Key: 4, Val: 64, Max: n}, {Hash: any, Key: n, Val: n, Max: n}, {Hash: any, Key: 4, Val: n, Max: n}, {Hash: any, Key: 4, Val: 1<<32 + 8, Max: n}} {
				asksRight(t, rightDef(d), d)
			}
		}
	}
	asksRight(t, false, api.Def{})
	asksRight(t, false, api.Def{Hash: true})
}

// P9.1: how many maps there may be; one of them that is wrong is enough.
func TestRightOfMany(t *testing.T) {
	for n := range 20 {
		l := slices.Repeat([]api.Def{hash(1, 8, 1)}, n)
		asksRight(t, n <= 8, l...)
		for i := range l {
			bad := slices.Clone(l)
			bad[i].Val = 9
			asksRight(t, false, bad...)
			bad[i] = numbered(64, 16)
			asksRight(t, n <= 8, bad...)
		}
	}
	if !table.Right(nil) || !table.Right([]api.Def{}) {
		t.Error("Right of no maps is false")
	}
	for _, l := range [][]api.Def{nil, {}} {
		if x, e := table.New(mem.New(), l); x == nil || e != api.OK {
			t.Errorf("New of no maps = %v, %d; want maps, OK", x, e)
		}
	}
}

// P9.1: without memory there are no maps, whatever they are.
func TestNewWithoutMemory(t *testing.T) {
	for _, l := range [][]api.Def{nil, {hash(1, 8, 1)}, {numbered(8, 1)}, {{}}} {
		if x, e := table.New(nil, l); x != nil || e != api.ErrArg {
			t.Errorf("New(nil, %v) = %v, %d; want nil, ErrArg", l, x, e)
		}
	}
}

// P9.1: the areas of numbered maps are made, of their length, zeros, neither blank nor fixed; none else.
func TestNewMakesAreas(t *testing.T) {
	x, m := made(t, numbered(16, 3), hash(4, 8, 16), numbered(64, 16), numbered(8, 1))
	want := map[int]int{4096: 16, 4097: 16, 4098: 16, 7168: 8}
	for slot := range 16 {
		want[6144+slot] = 64
	}
	for area := range 20000 {
		b, ok := m.Area(area)
		if ok != (want[area] > 0) || !bytes.Equal(b, make([]byte, want[area])) {
			t.Errorf("Area(%d) = %v, %t; want %d zeros", area, b, ok, want[area])
		}
		if !ok {
			continue
		}
		for off := 0; off < len(b); off += 8 {
			if n, e := m.Load(mem.At(area, off), 8); n != 0 || e != api.OK {
				t.Errorf("Load of 8 bytes at %d of area %d = %d, %d; want 0, OK", off, area, n, e)
			}
			if e := m.Store(mem.At(area, off), 8, 1); e != api.OK {
				t.Errorf("Store at %d of area %d = %d; want OK", off, area, e)
			}
		}
	}
	if l := x.Items(1); len(l) != 0 {
		t.Errorf("Items of a map with any keys = %v; want none", l)
	}
}

// P9.1: an area that is there already is an error; those that were made ahead of it stay, in order, none behind it is made.
func TestNewOfAnAreaThatIsThere(t *testing.T) {
	l := []api.Def{numbered(8, 2), hash(1, 8, 4), numbered(8, 3)}
	order := []int{4096, 4097, 6144, 6145, 6146}
	for n, taken := range order {
		m := mem.New()
		m.Make(taken, []byte{7}, true, true)
		if x, e := table.New(m, l); x != nil || e != api.ErrArg {
			t.Errorf("New with area %d = %v, %d; want nil, ErrArg", taken, x, e)
		}
		holds(t, m, taken, []byte{7})
		for _, area := range order[:n] {
			holds(t, m, area, fill(8, 0))
		}
		for _, area := range order[n+1:] {
			holdsNone(t, m, area)
		}
	}
	m := mem.New()
	for _, area := range []int{4095, 4098, 5119, 5120, 5121, 6143, 6147, 3, 12288} {
		m.Make(area, nil, false, false)
	}
	if x, e := table.New(m, l); x == nil || e != api.OK {
		t.Errorf("New with areas beside its own = %v, %d; want maps, OK", x, e)
	}
	if x, e := table.New(m, l); x != nil || e != api.ErrArg {
		t.Errorf("New once more = %v, %d; want nil, ErrArg", x, e)
	}
	if x, e := table.New(m, []api.Def{hash(1, 8, 1)}); x == nil || e != api.OK {
		t.Errorf("New of a map with any keys where areas are = %v, %d; want maps, OK", x, e)
	}
}

// P9.2: what is asked of no map, or of keys and values that none has, is refused, ahead of all else.
func TestArguments(t *testing.T) {
	defs := []api.Def{hash(1, 8, 2), numbered(16, 2), hash(16, 64, 16)}
	x, _ := made(t, defs...)
	puts(t, x, 0, []byte{1}, fill(8, 1), 0, 0, api.OK)
	ahead := [][]api.Item{x.Items(0), x.Items(1), x.Items(2)}
	for _, i := range append([]int{3, 4, 5}, edges...) {
		for n := range 20 {
			key := make([]byte, n)
			is := i >= 0 && i < 3 && n == defs[i].Key
			if is {
				continue
			}
			looks(t, x, i, key, 0, api.ErrArg)
			drops(t, x, i, key, 0, api.ErrArg)
			for _, flags := range []uint64{0, 1, 2, 3, math.MaxUint64} {
				for _, val := range []int{0, 8, 16, 64} {
					puts(t, x, i, key, make([]byte, val), flags, 0, api.ErrArg)
				}
			}
		}
	}
	for i, d := range defs {
		for n := range 70 {
			if n == d.Val {
				continue
			}
			for _, flags := range []uint64{0, 1, 2, 3, math.MaxUint64} {
				for _, key := range [][]byte{fill(d.Key, 0), fill(d.Key, 1), fill(d.Key, 77)} {
					puts(t, x, i, key, make([]byte, n), flags, 0, api.ErrArg)
				}
			}
		}
	}
	for i, l := range ahead {
		has(t, x, i, l...)
	}
}

// P9.2: a numbered map: all keys below Max are there, from the beginning on, at their own areas.
func TestNumbered(t *testing.T) {
	for max := 1; max <= 16; max++ {
		x, m := made(t, hash(4, 8, 16), numbered(8, max))
		var want []api.Item
		for n := range uint32(max) {
			want = append(want, api.Item{Key: num(n), Val: fill(8, 0)})
			looks(t, x, 1, num(n), mem.At(5120+int(n), 0), api.OK)
		}
		has(t, x, 1, want...)
		for n := range uint32(max) {
			puts(t, x, 1, num(n), fill(8, byte(n+1)), 0, 0, api.OK)
			holds(t, m, 5120+int(n), fill(8, byte(n+1)))
			puts(t, x, 1, num(n), fill(8, byte(n+70)), 1, no17, api.OK)
			holds(t, m, 5120+int(n), fill(8, byte(n+1)))
			puts(t, x, 1, num(n), fill(8, byte(n+2)), 2, 0, api.OK)
			holds(t, m, 5120+int(n), fill(8, byte(n+2)))
			puts(t, x, 1, num(n), fill(8, byte(n+71)), 3, no22, api.OK)
			drops(t, x, 1, num(n), no22, api.OK)
			want[n].Val = fill(8, byte(n+2))
			has(t, x, 1, want...)
			looks(t, x, 1, num(n), mem.At(5120+int(n), 0), api.OK)
		}
		for _, n := range []uint32{uint32(max), uint32(max) + 1, 17, 255, 256, 257, 1 << 16, 1<<16 + 1, 1 << 24, 1<<24 + 1, 1 << 31, 1<<31 + 1, math.MaxUint32} {
			looks(t, x, 1, num(n), 0, api.OK)
			drops(t, x, 1, num(n), no22, api.OK)
			for flags, want := range map[uint64]uint64{0: no7, 1: no7, 2: no7, 3: no22, math.MaxUint64: no22} {
				puts(t, x, 1, num(n), fill(8, 99), flags, want, api.OK)
			}
		}
		has(t, x, 1, want...)
		holdsNone(t, m, 5120+max)
		has(t, x, 0)
	}
}

// P9.2: a map with any keys: each key of each flag, there or not, with room or none.
func TestAnyKeys(t *testing.T) {
	flags := []uint64{0, 1, 2, 3, 4, 1 << 32, 1<<32 + 1, 1 << 63, math.MaxUint64}
	there := []uint64{0, no17, 0, no22, no22, no22, no22, no22, no22}
	room := []uint64{0, 0, no2, no22, no22, no22, no22, no22, no22}
	full := []uint64{no7, no7, no2, no22, no22, no22, no22, no22, no22}
	for f := range flags {
		x, m := made(t, hash(2, 16, 2))
		a, b, c := []byte{1, 2}, []byte{2, 1}, []byte{2, 2}
		puts(t, x, 0, a, fill(16, 1), 1, 0, api.OK)
		puts(t, x, 0, b, fill(16, 2), flags[f], room[f], api.OK)
		if room[f] == 0 {
			has(t, x, 0, api.Item{Key: a, Val: fill(16, 1)}, api.Item{Key: b, Val: fill(16, 2)})
			looks(t, x, 0, b, mem.At(4097, 0), api.OK)
		} else {
			has(t, x, 0, api.Item{Key: a, Val: fill(16, 1)})
			looks(t, x, 0, b, 0, api.OK)
			holdsNone(t, m, 4097)
			puts(t, x, 0, b, fill(16, 2), 0, 0, api.OK)
		}
		puts(t, x, 0, c, fill(16, 3), flags[f], full[f], api.OK)
		looks(t, x, 0, c, 0, api.OK)
		puts(t, x, 0, a, fill(16, 4), flags[f], there[f], api.OK)
		as := fill(16, 1)
		if there[f] == 0 {
			as = fill(16, 4)
		}
		has(t, x, 0, api.Item{Key: a, Val: as}, api.Item{Key: b, Val: fill(16, 2)})
		looks(t, x, 0, a, mem.At(4096, 0), api.OK)
		looks(t, x, 0, b, mem.At(4097, 0), api.OK)
		holds(t, m, 4096, as)
		holds(t, m, 4097, fill(16, 2))
		holdsNone(t, m, 4098)
	}
}

// P9.2: a key that was dropped is not there; its area stays, and what is put to it later has the next slot.
func TestDrop(t *testing.T) {
	x, m := made(t, numbered(8, 1), hash(3, 8, 2))
	a, b, c := []byte{1, 0, 0}, []byte{0, 1, 0}, []byte{0, 0, 1}
	drops(t, x, 1, a, no2, api.OK)
	puts(t, x, 1, a, fill(8, 1), 0, 0, api.OK)
	puts(t, x, 1, b, fill(8, 2), 0, 0, api.OK)
	drops(t, x, 1, c, no2, api.OK)
	drops(t, x, 1, a, 0, api.OK)
	drops(t, x, 1, a, no2, api.OK)
	looks(t, x, 1, a, 0, api.OK)
	has(t, x, 1, api.Item{Key: b, Val: fill(8, 2)})
	holds(t, m, 5120, fill(8, 1))
	puts(t, x, 1, a, fill(8, 3), 2, no2, api.OK)
	puts(t, x, 1, c, fill(8, 4), 1, 0, api.OK)
	looks(t, x, 1, c, mem.At(5122, 0), api.OK)
	puts(t, x, 1, a, fill(8, 5), 0, no7, api.OK)
	drops(t, x, 1, b, 0, api.OK)
	puts(t, x, 1, a, fill(8, 6), 0, 0, api.OK)
	looks(t, x, 1, a, mem.At(5123, 0), api.OK)
	has(t, x, 1, api.Item{Key: c, Val: fill(8, 4)}, api.Item{Key: a, Val: fill(8, 6)})
	for slot, n := range []byte{1, 2, 4, 6} {
		holds(t, m, 5120+slot, fill(8, n))
	}
	holdsNone(t, m, 5124)
	if e := m.Store(mem.At(5120, 0), 8, 0); e != api.OK {
		t.Errorf("Store to what was dropped = %d; want OK", e)
	}
	has(t, x, 1, api.Item{Key: c, Val: fill(8, 4)}, api.Item{Key: a, Val: fill(8, 6)})
}

// P9.2: a value that came to be is neither blank nor fixed.
func TestNewValuesAreOpen(t *testing.T) {
	x, m := made(t, hash(1, 24, 1))
	val := []byte{1, 2, 3, 4, 5, 6, 7, 8, 9, 10, 11, 12, 13, 14, 15, 16, 17, 18, 19, 20, 21, 22, 23, 24}
	puts(t, x, 0, []byte{0}, val, 0, 0, api.OK)
	if b, e := m.Read(mem.At(4096, 0), 24); e != api.OK || !bytes.Equal(b, val) {
		t.Errorf("Read = %v, %d; want %v, OK", b, e, val)
	}
	if _, e := m.Read(mem.At(4096, 0), 25); e != api.ErrFault {
		t.Errorf("Read of more than a value = %d; want ErrFault", e)
	}
	if e := m.Store(mem.At(4096, 16), 8, 0); e != api.OK {
		t.Errorf("Store = %d; want OK", e)
	}
	has(t, x, 0, api.Item{Key: []byte{0}, Val: append(slices.Clone(val[:16]), fill(8, 0)...)})
	back := slices.Clone(val)
	slices.Reverse(back)
	puts(t, x, 0, []byte{0}, back, 0, 0, api.OK)
	holds(t, m, 4096, back)
}

// P9.2: of a map MaxSlots values come to be at most; what is asked ahead of that is told ahead of it.
func TestSlotsEnd(t *testing.T) {
	x, m := made(t, hash(1, 8, 2), hash(1, 8, 2), numbered(8, 1))
	a, b, c := []byte{1}, []byte{2}, []byte{3}
	puts(t, x, 0, a, fill(8, 1), 0, 0, api.OK)
	for n := 1; n < 1024; n++ {
		puts(t, x, 0, b, fill(8, byte(n)), 0, 0, api.OK)
		looks(t, x, 0, b, mem.At(4096+n, 0), api.OK)
		if n < 1023 {
			drops(t, x, 0, b, 0, api.OK)
		}
	}
	puts(t, x, 0, c, fill(8, 9), 0, no7, api.OK)
	drops(t, x, 0, b, 0, api.OK)
	for flags, want := range map[uint64]uint64{0: no12, 1: no12, 2: no2, 3: no22} {
		puts(t, x, 0, b, fill(8, 9), flags, want, api.OK)
		puts(t, x, 0, c, fill(8, 9), flags, want, api.OK)
	}
	looks(t, x, 0, b, 0, api.OK)
	holdsNone(t, m, 5120)
	puts(t, x, 0, a, fill(8, 7), 2, 0, api.OK)
	has(t, x, 0, api.Item{Key: a, Val: fill(8, 7)})
	drops(t, x, 0, a, 0, api.OK)
	puts(t, x, 0, a, fill(8, 7), 0, no12, api.OK)
	has(t, x, 0)
	for slot := range 1024 {
		if _, ok := m.Area(4096 + slot); !ok {
			t.Errorf("area %d did not stay", 4096+slot)
		}
	}
	puts(t, x, 1, b, fill(8, 4), 0, 0, api.OK)
	looks(t, x, 1, b, mem.At(5120, 0), api.OK)
}

// P9.2: where the next slot's area is there already no value comes to be, then or later, and what is there stays as it was.
func TestSlotIsTaken(t *testing.T) {
	x, m := made(t, hash(1, 8, 3))
	a, b, c := []byte{1}, []byte{2}, []byte{3}
	puts(t, x, 0, a, fill(8, 1), 0, 0, api.OK)
	m.Make(4097, []byte{5}, true, true)
	for range 3 {
		puts(t, x, 0, b, fill(8, 2), 0, no12, api.OK)
		puts(t, x, 0, c, fill(8, 2), 1, no12, api.OK)
		puts(t, x, 0, c, fill(8, 2), 2, no2, api.OK)
		looks(t, x, 0, b, 0, api.OK)
		drops(t, x, 0, b, no2, api.OK)
	}
	has(t, x, 0, api.Item{Key: a, Val: fill(8, 1)})
	holds(t, m, 4097, []byte{5})
	holdsNone(t, m, 4098)
	puts(t, x, 0, a, fill(8, 3), 0, 0, api.OK)
	has(t, x, 0, api.Item{Key: a, Val: fill(8, 3)})
	drops(t, x, 0, a, 0, api.OK)
	puts(t, x, 0, a, fill(8, 3), 0, no12, api.OK)
	has(t, x, 0)
}

// P9.3: keys rise byte by byte, the first byte first, whatever order they were put in.
func TestItemsRise(t *testing.T) {
	keys := [][]byte{{0, 0, 0, 0}, {0, 0, 0, 1}, {0, 0, 1, 0}, {0, 1, 0, 0}, {0, 255, 0, 0}, {1, 0, 0, 0}, {1, 0, 0, 255}, {2, 0, 0, 0}, {10, 0, 0, 0}, {16, 0, 0, 0}, {127, 255, 255, 255}, {128, 0, 0, 0}, {195, 40, 0, 0}, {254, 0, 255, 0}, {255, 0, 0, 0}, {255, 255, 255, 255}}
	r := rand.New(rand.NewPCG(9, 9))
	for range 50 {
		x, _ := made(t, hash(4, 8, 16))
		var want []api.Item
		for i, key := range keys {
			want = append(want, api.Item{Key: key, Val: fill(8, byte(i))})
		}
		for _, i := range r.Perm(16) {
			puts(t, x, 0, keys[i], want[i].Val, 0, 0, api.OK)
		}
		for range 5 {
			has(t, x, 0, want...)
		}
		out := r.IntN(16)
		drops(t, x, 0, keys[out], 0, api.OK)
		has(t, x, 0, slices.Delete(want, out, out+1)...)
	}
}

// P9.3: of no map there are no items.
func TestItemsOfNone(t *testing.T) {
	x, _ := made(t, numbered(8, 1), numbered(8, 2))
	for _, i := range append([]int{2, 3}, edges...) {
		if i != 0 && i != 1 {
			has(t, x, i)
		}
	}
	x, _ = made(t)
	has(t, x, 0)
	looks(t, x, 0, num(0), 0, api.ErrArg)
}

// P9.3, P9.4: a value is as it is in memory, also where something else is stored there.
func TestItemsAreMemory(t *testing.T) {
	x, m := made(t, hash(1, 16, 2), numbered(8, 2))
	puts(t, x, 0, []byte{7}, fill(16, 1), 0, 0, api.OK)
	at, _ := x.Look(0, []byte{7})
	if e := m.Store(at+6, 4, 0x05040302); e != api.OK {
		t.Fatalf("Store = %d; want OK", e)
	}
	has(t, x, 0, api.Item{Key: []byte{7}, Val: []byte{1, 1, 1, 1, 1, 1, 2, 3, 4, 5, 1, 1, 1, 1, 1, 1}})
	at, _ = x.Look(1, num(1))
	if e := m.Store(at, 8, 0x0807060504030201); e != api.OK {
		t.Fatalf("Store = %d; want OK", e)
	}
	has(t, x, 1, api.Item{Key: num(0), Val: fill(8, 0)}, api.Item{Key: num(1), Val: []byte{1, 2, 3, 4, 5, 6, 7, 8}})
	puts(t, x, 1, num(1), fill(8, 9), 2, 0, api.OK)
	if n, e := m.Load(at, 8); n != 0x0909090909090909 || e != api.OK {
		t.Errorf("Load = %#x, %d; want what was put, OK", n, e)
	}
}

// P9.3: on nil Tables each call tells that there is none, whatever it is asked.
func TestNil(t *testing.T) {
	var x *table.Tables
	for _, i := range edges {
		has(t, x, i)
		for n := range 18 {
			looks(t, x, i, make([]byte, n), 0, api.ErrNone)
			drops(t, x, i, make([]byte, n), 0, api.ErrNone)
			for _, flags := range []uint64{0, 1, 2, 3, math.MaxUint64} {
				puts(t, x, i, make([]byte, n), make([]byte, 8), flags, 0, api.ErrNone)
				puts(t, x, i, nil, nil, flags, 0, api.ErrNone)
			}
		}
	}
}

// Rule 1: Tables that New did not make, and those whose memory was lost, panic no more than others.
func TestZero(t *testing.T) {
	var x table.Tables
	for _, i := range edges {
		has(t, &x, i)
		looks(t, &x, i, num(0), 0, api.ErrArg)
		drops(t, &x, i, num(0), 0, api.ErrArg)
		puts(t, &x, i, num(0), fill(8, 0), 0, 0, api.ErrArg)
	}
	y, m := made(t, numbered(8, 1))
	*m = mem.Mem{}
	puts(t, y, 0, num(0), fill(8, 0), 0, 0, api.OK)
	if l := y.Items(0); len(l) != 1 {
		t.Errorf("Items = %v; want one", l)
	}
}

// Two that have a memory each have nothing to do with each other.
func TestApart(t *testing.T) {
	x, m := made(t, hash(1, 8, 1), numbered(8, 1))
	y, n := made(t, hash(1, 8, 1), numbered(8, 1))
	puts(t, x, 0, []byte{1}, fill(8, 1), 0, 0, api.OK)
	puts(t, x, 1, num(0), fill(8, 1), 0, 0, api.OK)
	has(t, y, 0)
	has(t, y, 1, api.Item{Key: num(0), Val: fill(8, 0)})
	holdsNone(t, n, 4096)
	puts(t, y, 0, []byte{2}, fill(8, 2), 0, 0, api.OK)
	has(t, x, 0, api.Item{Key: []byte{1}, Val: fill(8, 1)})
	holds(t, m, 4096, fill(8, 1))
	holds(t, n, 4096, fill(8, 2))
}

// Rule 4: what is handed in is neither changed nor kept, nor what is behind its length.
func TestNothingIsKept(t *testing.T) {
	all := []api.Def{hash(1, 8, 2), numbered(8, 1), hash(1, 8, 9)}
	ahead := slices.Clone(all)
	x, _ := made(t, all[:2]...)
	if !slices.Equal(all, ahead) {
		t.Errorf("New changed its maps: %v", all)
	}
	all[0], all[1] = hash(2, 16, 1), numbered(16, 9)
	looks(t, x, 2, []byte{1}, 0, api.ErrArg)
	key, val := []byte{1, 2}, []byte{1, 2, 3, 4, 5, 6, 7, 8, 9, 10}
	puts(t, x, 0, key[:1], val[:8], 0, 0, api.OK)
	puts(t, x, 1, num(0), val[1:9], 0, 0, api.OK)
	puts(t, x, 0, key[:1], val[2:], 2, 0, api.OK)
	looks(t, x, 0, key[:1], mem.At(4096, 0), api.OK)
	drops(t, x, 0, key[1:], no2, api.OK)
	if !bytes.Equal(key, []byte{1, 2}) || !bytes.Equal(val, []byte{1, 2, 3, 4, 5, 6, 7, 8, 9, 10}) {
		t.Errorf("what was handed in was changed: %v, %v", key, val)
	}
	clear(key)
	clear(val)
	has(t, x, 0, api.Item{Key: []byte{1}, Val: []byte{3, 4, 5, 6, 7, 8, 9, 10}})
	has(t, x, 1, api.Item{Key: num(0), Val: []byte{2, 3, 4, 5, 6, 7, 8, 9}})
	puts(t, x, 0, []byte{7}, fill(8, 1), 0, 0, api.OK)
	puts(t, x, 0, []byte{8}, fill(8, 1), 0, no7, api.OK)
}

// Rule 5: what is answered is the caller's.
func TestNothingIsShared(t *testing.T) {
	x, m := made(t, hash(2, 8, 4), numbered(8, 2))
	puts(t, x, 0, []byte{1, 1}, fill(8, 1), 0, 0, api.OK)
	puts(t, x, 0, []byte{2, 2}, fill(8, 2), 0, 0, api.OK)
	for i := range 2 {
		first, second := x.Items(i), x.Items(i)
		keep := x.Items(i)
		clear(first[0].Key[:cap(first[0].Key)])
		clear(first[0].Val[:cap(first[0].Val)])
		for j := range first[1].Key {
			first[1].Key[j] = 77
		}
		for j := range first[1].Val {
			first[1].Val[j] = 77
		}
		clear(first[:cap(first)])
		if !same(second, keep) {
			t.Errorf("two answers share: %v; want %v", second, keep)
		}
		has(t, x, i, keep...)
	}
	l := x.Items(0)
	puts(t, x, 0, []byte{1, 1}, fill(8, 9), 0, 0, api.OK)
	m.Store(mem.At(4097, 0), 8, 0)
	if !bytes.Equal(l[0].Val, fill(8, 1)) || !bytes.Equal(l[1].Val, fill(8, 2)) {
		t.Errorf("what was answered changed later: %v", l)
	}
}

// entry is a key that is there, and where its value is.
type entry struct {
	key  []byte
	slot int
}

// model is maps as lists, and their memory by areas.
type model struct {
	defs    []api.Def
	entries [][]entry
	came    []int
	areas   map[int][]byte
}

func newModel(defs []api.Def) *model {
	m := &model{defs: defs, entries: make([][]entry, len(defs)), came: make([]int, len(defs)), areas: map[int][]byte{}}
	for i, d := range defs {
		for n := 0; !d.Hash && n < d.Max; n++ {
			m.entries[i] = append(m.entries[i], entry{num(uint32(n)), n})
			m.areas[4096+1024*i+n] = make([]byte, d.Val)
		}
	}
	return m
}

// at is at which place of the map's list a key is, or -1.
func (m *model) at(i int, key []byte) int {
	return slices.IndexFunc(m.entries[i], func(x entry) bool { return bytes.Equal(x.key, key) })
}

func (m *model) put(i int, key, val []byte, flags uint64) uint64 {
	at, d := m.at(i, key), m.defs[i]
	area := 4096 + 1024*i + m.came[i]
	if flags != 0 && flags != 1 && flags != 2 {
		return no22
	}
	if !d.Hash && at < 0 {
		return no7
	}
	if at >= 0 && flags == 1 {
		return no17
	}
	if at >= 0 {
		m.areas[4096+1024*i+m.entries[i][at].slot] = val
		return 0
	}
	if flags == 2 {
		return no2
	}
	if len(m.entries[i]) >= d.Max {
		return no7
	}
	if _, taken := m.areas[area]; taken || m.came[i] >= 1024 {
		return no12
	}
	m.areas[area] = val
	m.entries[i] = append(m.entries[i], entry{key, m.came[i]})
	m.came[i]++
	return 0
}

func (m *model) look(i int, key []byte) uint64 {
	at := m.at(i, key)
	if at < 0 {
		return 0
	}
	return uint64(4096+1024*i+m.entries[i][at].slot) << 32
}

func (m *model) drop(i int, key []byte) uint64 {
	if !m.defs[i].Hash {
		return no22
	}
	at := m.at(i, key)
	if at < 0 {
		return no2
	}
	m.entries[i] = slices.Delete(m.entries[i], at, at+1)
	return 0
}

func (m *model) items(i int) []api.Item {
	l := slices.Clone(m.entries[i])
	slices.SortFunc(l, func(a, b entry) int {
		for j := range a.key {
			if a.key[j] != b.key[j] {
				return cmp.Compare(a.key[j], b.key[j])
			}
		}
		return 0
	})
	var items []api.Item
	for _, x := range l {
		items = append(items, api.Item{Key: x.key, Val: m.areas[4096+1024*i+x.slot]})
	}
	return items
}

// both is maps, their memory, and a model of both.
type both struct {
	x  *table.Tables
	m  *mem.Mem
	as *model
}

// deal does one call that is drawn on both.
func (b both) deal(t *testing.T, r *rand.Rand) {
	t.Helper()
	i := r.IntN(len(b.as.defs))
	d := b.as.defs[i]
	key := make([]byte, d.Key)
	key[r.IntN(d.Key)] = byte(r.IntN(5))
	switch n := r.IntN(40); {
	case n < 20:
		val := fill(d.Val, byte(r.IntN(256)))
		flags := []uint64{0, 0, 0, 0, 1, 2, 3, r.Uint64()}[r.IntN(8)]
		puts(t, b.x, i, key, val, flags, b.as.put(i, slices.Clone(key), slices.Clone(val), flags), api.OK)
	case n < 28:
		drops(t, b.x, i, key, b.as.drop(i, key), api.OK)
	case n < 32:
		looks(t, b.x, i, key, b.as.look(i, key), api.OK)
	case n < 39:
		if at := b.as.look(i, key); at != 0 {
			off := r.IntN(d.Val)
			b.m.Store(at+uint64(off), 1, uint64(off))
			b.as.areas[int(at>>32)][off] = byte(off)
		}
	case r.IntN(10) == 0:
		area := 4096 + 1024*i + r.IntN(200)
		if b.m.Make(area, []byte{1}, false, false) == api.OK {
			b.as.areas[area] = []byte{1}
		}
	}
}

// same asks whether all that is told of both is the same.
func (b both) same(t *testing.T) {
	t.Helper()
	for i := range b.as.defs {
		has(t, b.x, i, b.as.items(i)...)
	}
	for area := 4000; area < 4096+1024*len(b.as.defs)+100; area++ {
		got, ok := b.m.Area(area)
		want, there := b.as.areas[area]
		if ok != there || !bytes.Equal(got, want) {
			t.Errorf("Area(%d) = %v, %t; want %v, %t", area, got, ok, want, there)
		}
	}
}

// P9.4: what was put is there, till it is dropped, or something else is put, or stored there; nothing else changes, by whatever call.
func TestAgainstLists(t *testing.T) {
	for seed := range uint64(40) {
		r := rand.New(rand.NewPCG(seed, 9))
		var defs []api.Def
		for range 1 + r.IntN(8) {
			d := api.Def{Hash: r.IntN(3) > 0, Key: 4, Val: 8 + 8*r.IntN(8), Max: 1 + r.IntN(16)}
			if d.Hash {
				d.Key = 1 + r.IntN(16)
			}
			defs = append(defs, d)
		}
		x, m := made(t, defs...)
		b := both{x, m, newModel(defs)}
		b.same(t)
		for range 120 {
			b.deal(t, r)
			b.same(t)
			if t.Failed() {
				t.Fatalf("of draws %d", seed)
			}
		}
	}
}
