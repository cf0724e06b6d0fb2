package mem_test

import (
	"bytes"
	"math"
	"math/big"
	"math/rand/v2"
	"slices"
	"testing"

	"hackle/api"
	"hackle/mem"
)

// most is the greatest number of an area.
const most = 1<<31 - 1

// count is n bytes that differ from their neighbours.
func count(n int) []byte {
	b := make([]byte, n)
	for i := range b {
		b[i] = byte(i*7 + 1)
	}
	return b
}

// made is memory with an area.
func made(t *testing.T, area int, b []byte, blank, fixed bool) *mem.Mem {
	t.Helper()
	m := mem.New()
	make1(t, m, area, b, blank, fixed)
	return m
}

// make1 makes an area that may be.
func make1(t *testing.T, m *mem.Mem, area int, b []byte, blank, fixed bool) {
	t.Helper()
	if e := m.Make(area, b, blank, fixed); e != api.OK {
		t.Fatalf("Make(%d, %d bytes, %t, %t) = %d; want OK", area, len(b), blank, fixed, e)
	}
}

// holds asks an area's bytes.
func holds(t *testing.T, m *mem.Mem, area int, want ...byte) {
	t.Helper()
	if b, ok := m.Area(area); !ok || !bytes.Equal(b, want) {
		t.Errorf("Area(%d) = %v, %t; want %v, true", area, b, ok, want)
	}
}

// reads asks for bytes that are there.
func reads(t *testing.T, m *mem.Mem, at uint64, want ...byte) {
	t.Helper()
	if b, e := m.Read(at, len(want)); e != api.OK || !bytes.Equal(b, want) {
		t.Errorf("Read(%#x, %d) = %v, %d; want %v, OK", at, len(want), b, e, want)
	}
}

// unread asks for bytes that are not told.
func unread(t *testing.T, m *mem.Mem, at uint64, size int, want api.Errno) {
	t.Helper()
	if b, e := m.Read(at, size); e != want || len(b) != 0 {
		t.Errorf("Read(%#x, %d) = %v, %d; want none, %d", at, size, b, e, want)
	}
}

// loads asks for a number.
func loads(t *testing.T, m *mem.Mem, at uint64, size int, want uint64, e api.Errno) {
	t.Helper()
	if n, got := m.Load(at, size); n != want || got != e {
		t.Errorf("Load(%#x, %d) = %#x, %d; want %#x, %d", at, size, n, got, want, e)
	}
}

// stores puts a number.
func stores(t *testing.T, m *mem.Mem, at uint64, size int, n uint64, want api.Errno) {
	t.Helper()
	if e := m.Store(at, size, n); e != want {
		t.Errorf("Store(%#x, %d, %#x) = %d; want %d", at, size, n, e, want)
	}
}

// P8.2: the chapter's example.
func TestExample(t *testing.T) {
	m := made(t, 2, make([]byte, 8), true, false)
	stores(t, m, mem.At(2, 6), 2, 258, api.OK)
	stores(t, m, mem.At(2, 6), 4, 258, api.ErrFault)
	loads(t, m, mem.At(2, 6), 1, 2, api.OK)
	loads(t, m, mem.At(2, 5), 1, 0, api.ErrBlank)
	holds(t, m, 2, 0, 0, 0, 0, 0, 0, 2, 1)
}

// The chapter's words on At: 2^32 times area, and off, together, modulo 2^64.
func TestAt(t *testing.T) {
	for _, c := range []struct {
		area, off int
		want      uint64
	}{
		{0, 0, 0},
		{0, 1, 1},
		{0, -1, math.MaxUint64},
		{1, 0, 1 << 32},
		{1, 1023, 1<<32 + 1023},
		{1, -1, 1<<32 - 1},
		{2, 504, 0x2000001f8},
		{most, 0, 0x7fffffff00000000},
		{most, 1024, 0x7fffffff00000400},
		{most + 1, 0, 1 << 63},
		{1<<32 - 1, 1<<32 - 1, math.MaxUint64},
		{1 << 32, 5, 5},
		{1<<32 + 1, 5, 1<<32 + 5},
		{-1, 0, 0xffffffff00000000},
		{-1, -1, 0xfffffffeffffffff},
		{-1, 1 << 32, 0},
		{3, 1 << 32, 4 << 32},
		{math.MaxInt, math.MaxInt, 0x7ffffffeffffffff},
		{math.MinInt, math.MinInt, 1 << 63},
		{math.MinInt, math.MaxInt, math.MaxInt64},
	} {
		if n := mem.At(c.area, c.off); n != c.want {
			t.Errorf("At(%d, %d) = %#x; want %#x", c.area, c.off, n, c.want)
		}
	}
}

// P8.1: which numbers an area may have; those that it may not have leave none.
func TestMakeOfNumbers(t *testing.T) {
	for _, area := range []int{1, 2, 3, 4095, 4096, 1<<16 + 1, 1 << 30, most - 1, most} {
		m := made(t, area, count(3), false, false)
		holds(t, m, area, 1, 8, 15)
		reads(t, m, mem.At(area, 0), 1, 8, 15)
	}
	for _, area := range []int{0, -1, -2, -most, -most - 1, most + 1, most + 2, 1<<32 - 1, 1 << 32, 1<<32 + 1, 1 << 62, math.MaxInt, math.MinInt, math.MinInt + 1} {
		m := mem.New()
		if e := m.Make(area, count(3), false, false); e != api.ErrArg {
			t.Errorf("Make(%d, ..) = %d; want ErrArg", area, e)
		}
		if b, ok := m.Area(area); ok || len(b) != 0 {
			t.Errorf("Area(%d) = %v, %t; want none, false", area, b, ok)
		}
		unread(t, m, mem.At(area, 0), 0, api.ErrFault)
		unread(t, m, mem.At(area, 0), 3, api.ErrFault)
	}
}

// P8.1: a number that an area has is no other one's; the area stays as it was.
func TestMakeTwice(t *testing.T) {
	m := made(t, 5, []byte{1, 2}, false, true)
	for _, again := range [][]byte{nil, {1, 2}, {3, 4}, count(1024), count(1025)} {
		for _, blank := range []bool{false, true} {
			for _, fixed := range []bool{false, true} {
				if e := m.Make(5, again, blank, fixed); e != api.ErrArg {
					t.Errorf("Make(5, %d bytes, ..) again = %d; want ErrArg", len(again), e)
				}
			}
		}
	}
	holds(t, m, 5, 1, 2)
	reads(t, m, mem.At(5, 0), 1, 2)
	stores(t, m, mem.At(5, 0), 1, 9, api.ErrFixed)
	unread(t, m, mem.At(5, 0), 3, api.ErrFault)
	make1(t, m, 6, []byte{3}, false, false)
	holds(t, m, 6, 3)
	none := made(t, 7, nil, false, false)
	if e := none.Make(7, []byte{1}, false, false); e != api.ErrArg {
		t.Errorf("Make(7, ..) again, of one without bytes = %d; want ErrArg", e)
	}
	holds(t, none, 7)
}

// P8.1: how many bytes an area may have; of more, and a number that may not be, the number is told.
func TestMakeOfLengths(t *testing.T) {
	for _, n := range []int{0, 1, 7, 8, 9, 255, 256, 1023, 1024} {
		m := made(t, 1, count(n), false, false)
		holds(t, m, 1, count(n)...)
		reads(t, m, mem.At(1, 0), count(n)...)
	}
	for _, n := range []int{1025, 1026, 2048, 70000} {
		m := mem.New()
		if e := m.Make(1, count(n), false, false); e != api.ErrLong {
			t.Errorf("Make of %d bytes = %d; want ErrLong", n, e)
		}
		if b, ok := m.Area(1); ok || len(b) != 0 {
			t.Errorf("behind Make of %d bytes Area = %v, %t; want none, false", n, b, ok)
		}
		if e := m.Make(0, count(n), false, false); e != api.ErrArg {
			t.Errorf("Make(0, %d bytes, ..) = %d; want ErrArg", n, e)
		}
		make1(t, m, 1, count(1024), false, false)
	}
	m := mem.New()
	make1(t, m, 1, slices.Grow(count(1024), 5000)[:1024], false, false)
	holds(t, m, 1, count(1024)...)
}

// P8.1: Area tells the bytes, blank or not, fixed or not, and nothing of areas that are not there.
func TestArea(t *testing.T) {
	for _, blank := range []bool{false, true} {
		for _, fixed := range []bool{false, true} {
			m := made(t, 9, []byte{4, 5, 6}, blank, fixed)
			holds(t, m, 9, 4, 5, 6)
			for _, area := range []int{0, 1, 8, 10, -9, 9 + 1<<32, most, math.MaxInt, math.MinInt} {
				if b, ok := m.Area(area); ok || len(b) != 0 {
					t.Errorf("Area(%d) = %v, %t; want none, false", area, b, ok)
				}
			}
		}
	}
	for _, b := range [][]byte{nil, {}} {
		holds(t, made(t, 9, b, true, true), 9)
	}
	if b, ok := mem.New().Area(9); ok || len(b) != 0 {
		t.Errorf("Area(9) of none = %v, %t; want none, false", b, ok)
	}
}

// P8.1: an area that is told blank is so all over, one that is not nowhere.
func TestMakeOfBlank(t *testing.T) {
	for _, fixed := range []bool{false, true} {
		blank := made(t, 3, count(1024), true, fixed)
		whole := made(t, 3, count(1024), false, fixed)
		for i := range 1024 {
			unread(t, blank, mem.At(3, i), 1, api.ErrBlank)
			reads(t, whole, mem.At(3, i), count(1024)[i])
		}
	}
}

// P8.1: an area that is told fixed is so all over, one that is not nowhere; blank bytes of a fixed one are never put.
func TestMakeOfFixed(t *testing.T) {
	for _, blank := range []bool{false, true} {
		fixed := made(t, 3, count(1024), blank, true)
		loose := made(t, 3, count(1024), blank, false)
		for i := range 1024 {
			stores(t, fixed, mem.At(3, i), 1, 77, api.ErrFixed)
			stores(t, loose, mem.At(3, i), 1, 77, api.OK)
		}
		holds(t, fixed, 3, count(1024)...)
		holds(t, loose, 3, bytes.Repeat([]byte{77}, 1024)...)
		if blank {
			unread(t, fixed, mem.At(3, 0), 1, api.ErrBlank)
		} else {
			reads(t, fixed, mem.At(3, 0), count(1024)...)
		}
		reads(t, loose, mem.At(3, 0), bytes.Repeat([]byte{77}, 1024)...)
	}
}

// P8.2: how many bytes may be read; that is told ahead of what is there.
func TestReadOfSizes(t *testing.T) {
	full := made(t, 1, count(1024), false, false)
	for size := range 1025 {
		reads(t, full, mem.At(1, 0), count(1024)[:size]...)
		reads(t, full, mem.At(1, 1024-size), count(1024)[1024-size:]...)
	}
	make1(t, full, 2, count(1024), true, true)
	for _, size := range []int{-1, -2, -8, 1025, 1026, 1 << 31, 1 << 32, 1<<32 + 1, math.MaxInt, math.MinInt, math.MinInt + 1} {
		for _, at := range []uint64{mem.At(1, 0), mem.At(1, 8), mem.At(2, 0), 0, mem.At(3, 0), math.MaxUint64} {
			unread(t, full, at, size, api.ErrArg)
		}
	}
	unread(t, full, mem.At(3, 0), 1024, api.ErrFault)
	unread(t, full, mem.At(2, 0), 1024, api.ErrBlank)
}

// P8.2: all bytes must be of one area.
func TestFaults(t *testing.T) {
	m := made(t, 1, count(8), false, false)
	make1(t, m, 2, count(8), false, false)
	make1(t, m, 3, nil, false, false)
	make1(t, m, most, count(1024), false, false)
	for _, c := range []struct {
		at   uint64
		size int
	}{
		{mem.At(1, -1), 1}, {mem.At(1, -1), 2}, {mem.At(1, -8), 8}, {mem.At(1, -1), 8},
		{mem.At(1, 8), 1}, {mem.At(1, 7), 2}, {mem.At(1, 5), 4}, {mem.At(1, 1), 8}, {mem.At(1, 9), 1},
		{mem.At(1, 1<<31), 1}, {mem.At(1, math.MaxUint32), 1}, {mem.At(2, -1), 1}, {mem.At(2, -1), 4}, {mem.At(2, -4), 8},
		{mem.At(2, 8), 1}, {mem.At(2, 8), 8}, {mem.At(3, 0), 1}, {mem.At(3, 0), 8}, {mem.At(3, -1), 1}, {mem.At(3, -1), 2},
		{mem.At(most, -1), 2}, {mem.At(most, 1024), 1}, {mem.At(most, 1023), 2}, {mem.At(most, 1017), 8},
		{0, 1}, {0, 8}, {1, 1}, {8, 8}, {1 << 31, 1}, {mem.At(4, 0), 1}, {mem.At(1<<16+1, 0), 1}, {mem.At(1<<31+1, 0), 1},
		{1 << 63, 1}, {1<<63 - 1, 1}, {mem.At(-1, 0), 1}, {mem.At(-most, 0), 1}, {mem.At(-2, 0), 8},
		{math.MaxUint64, 1}, {math.MaxUint64, 2}, {math.MaxUint64, 8}, {math.MaxUint64 - 7, 8}, {math.MaxUint64 - 6, 8},
	} {
		unread(t, m, c.at, c.size, api.ErrFault)
		loads(t, m, c.at, c.size, 0, api.ErrFault)
		stores(t, m, c.at, c.size, math.MaxUint64, api.ErrFault)
	}
	unread(t, m, mem.At(1, 0), 9, api.ErrFault)
	unread(t, m, mem.At(1, 0), 1024, api.ErrFault)
	unread(t, m, mem.At(most, 1), 1024, api.ErrFault)
	unread(t, m, math.MaxUint64, 1024, api.ErrFault)
	holds(t, m, 1, count(8)...)
	holds(t, m, 2, count(8)...)
	holds(t, m, 3)
	holds(t, m, most, count(1024)...)
}

// P8.2: no bytes are read from where an area's byte is, and from behind its last one; blank or fixed is no matter then.
func TestReadOfNone(t *testing.T) {
	for _, blank := range []bool{false, true} {
		for _, fixed := range []bool{false, true} {
			m := mem.New()
			for _, c := range []struct{ area, n int }{{1, 8}, {3, 0}, {4, 1}, {5, 1024}, {most, 2}} {
				make1(t, m, c.area, count(c.n), blank, fixed)
				for off := range c.n + 1 {
					reads(t, m, mem.At(c.area, off))
				}
				for _, off := range []int{-2, -1, c.n + 1, c.n + 2, 2000, 1 << 31, math.MaxUint32} {
					unread(t, m, mem.At(c.area, off), 0, api.ErrFault)
				}
			}
			for _, at := range []uint64{0, 1, mem.At(2, 0), mem.At(2, 1), mem.At(6, 0), 1 << 63, mem.At(-1, 0), math.MaxUint64} {
				unread(t, m, at, 0, api.ErrFault)
			}
		}
	}
}

// P8.2: one blank byte among those that are read is enough, none beside them matters; a fault is told ahead of it.
func TestReadOfBlank(t *testing.T) {
	for hole := range 8 {
		m := made(t, 1, count(8), true, false)
		for i := range 8 {
			if i != hole {
				stores(t, m, mem.At(1, i), 1, uint64(10+i), api.OK)
			}
		}
		for from := range 8 {
			for size := range 8 - from + 1 {
				if from <= hole && hole < from+size {
					unread(t, m, mem.At(1, from), size, api.ErrBlank)
					continue
				}
				var want []byte
				for i := range size {
					want = append(want, byte(10+from+i))
				}
				reads(t, m, mem.At(1, from), want...)
			}
			unread(t, m, mem.At(1, from), 9-from, api.ErrFault)
		}
	}
}

// P8.2: how many bytes a number has; that is told ahead of what is there.
func TestSizesOfNumbers(t *testing.T) {
	m := made(t, 1, count(1024), false, false)
	make1(t, m, 2, count(1024), true, true)
	sizes := []int{math.MinInt, math.MinInt + 1, -1 << 32, 1 << 31, 1 << 32, 1<<32 + 1, 1<<32 + 8, math.MaxInt}
	for size := -70; size <= 1100; size++ {
		sizes = append(sizes, size)
	}
	for _, size := range sizes {
		if size == 1 || size == 2 || size == 4 || size == 8 {
			continue
		}
		for _, at := range []uint64{mem.At(1, 0), mem.At(1, 24), mem.At(2, 0), mem.At(3, 0), 0, math.MaxUint64} {
			loads(t, m, at, size, 0, api.ErrArg)
			stores(t, m, at, size, 5, api.ErrArg)
		}
	}
	holds(t, m, 1, count(1024)...)
	holds(t, m, 2, count(1024)...)
}

// P8.2: a number's lowest byte stands first; of a number that is too great its lowest bytes are put.
func TestNumbersByHand(t *testing.T) {
	m := made(t, 1, []byte{1, 2, 3, 4, 5, 6, 7, 8, 9, 250}, false, false)
	loads(t, m, mem.At(1, 0), 1, 1, api.OK)
	loads(t, m, mem.At(1, 0), 2, 0x201, api.OK)
	loads(t, m, mem.At(1, 0), 4, 0x4030201, api.OK)
	loads(t, m, mem.At(1, 0), 8, 0x807060504030201, api.OK)
	loads(t, m, mem.At(1, 2), 8, 0xfa09080706050403, api.OK)
	loads(t, m, mem.At(1, 8), 2, 0xfa09, api.OK)
	loads(t, m, mem.At(1, 9), 1, 250, api.OK)
	loads(t, m, mem.At(1, 6), 4, 0xfa090807, api.OK)
	stores(t, m, mem.At(1, 1), 1, 0xaabbccddeeff1122, api.OK)
	holds(t, m, 1, 1, 0x22, 3, 4, 5, 6, 7, 8, 9, 250)
	stores(t, m, mem.At(1, 1), 2, 0xaabbccddeeff1122, api.OK)
	holds(t, m, 1, 1, 0x22, 0x11, 4, 5, 6, 7, 8, 9, 250)
	stores(t, m, mem.At(1, 1), 4, 0xaabbccddeeff1122, api.OK)
	holds(t, m, 1, 1, 0x22, 0x11, 0xff, 0xee, 6, 7, 8, 9, 250)
	stores(t, m, mem.At(1, 2), 8, 0xaabbccddeeff1122, api.OK)
	holds(t, m, 1, 1, 0x22, 0x22, 0x11, 0xff, 0xee, 0xdd, 0xcc, 0xbb, 0xaa)
	stores(t, m, mem.At(1, 9), 1, 256, api.OK)
	holds(t, m, 1, 1, 0x22, 0x22, 0x11, 0xff, 0xee, 0xdd, 0xcc, 0xbb, 0)
}

// P8.2: what must not be changed is not, blank or not; a fault is told ahead of that; it is read as any other.
func TestFixed(t *testing.T) {
	for _, blank := range []bool{false, true} {
		m := made(t, 1, count(8), blank, true)
		for _, size := range []int{1, 2, 4, 8} {
			for off := range 9 {
				want := api.ErrFixed
				if off+size > 8 {
					want = api.ErrFault
				}
				stores(t, m, mem.At(1, off), size, 0x5a5a5a5a5a5a5a5a, want)
			}
		}
		holds(t, m, 1, count(8)...)
		if blank {
			loads(t, m, mem.At(1, 0), 8, 0, api.ErrBlank)
		} else {
			reads(t, m, mem.At(1, 0), count(8)...)
			loads(t, m, mem.At(1, 0), 2, 0x801, api.OK)
		}
	}
}

// P8.2: on a nil Mem each call tells that there is none, whatever it is asked.
func TestNil(t *testing.T) {
	var m *mem.Mem
	for _, n := range []int{math.MinInt, -1, 0, 1, 2, 4, 8, 1024, 1025, most, math.MaxInt} {
		for _, b := range [][]byte{nil, {1}, count(1025)} {
			if e := m.Make(n, b, true, false); e != api.ErrNone {
				t.Errorf("Make(%d, %d bytes, ..) = %d; want ErrNone", n, len(b), e)
			}
		}
		if b, ok := m.Area(n); ok || len(b) != 0 {
			t.Errorf("Area(%d) = %v, %t; want none, false", n, b, ok)
		}
		for _, at := range []uint64{0, mem.At(1, 0), math.MaxUint64} {
			unread(t, m, at, n, api.ErrNone)
			loads(t, m, at, n, 0, api.ErrNone)
			stores(t, m, at, n, 1, api.ErrNone)
		}
	}
}

// Rule 1: a Mem that New did not make panics no more than one that it made.
func TestZero(t *testing.T) {
	var m mem.Mem
	unread(t, &m, mem.At(1, 0), 0, api.ErrFault)
	loads(t, &m, mem.At(1, 0), 1, 0, api.ErrFault)
	stores(t, &m, mem.At(1, 0), 1, 1, api.ErrFault)
	if b, ok := m.Area(1); ok || len(b) != 0 {
		t.Errorf("Area(1) = %v, %t; want none, false", b, ok)
	}
	make1(t, &m, 1, count(2), false, false)
	holds(t, &m, 1, 1, 8)
}

// P8.3: two memories have nothing to do with each other.
func TestNewIsApart(t *testing.T) {
	a, b := mem.New(), mem.New()
	make1(t, a, 1, count(4), false, false)
	if l, ok := b.Area(1); ok || len(l) != 0 {
		t.Errorf("Area(1) of another one = %v, %t; want none, false", l, ok)
	}
	make1(t, b, 1, count(4), false, false)
	stores(t, a, mem.At(1, 0), 4, 0, api.OK)
	holds(t, a, 1, 0, 0, 0, 0)
	holds(t, b, 1, count(4)...)
}

// Rules 4 and 5: what is handed in is not kept, nor changed; what is answered is the caller's.
func TestNothingIsShared(t *testing.T) {
	m := mem.New()
	all := []byte{1, 2, 3, 4, 5, 6}
	make1(t, m, 1, all[:4], false, false)
	make1(t, m, 2, all[:4], false, false)
	stores(t, m, mem.At(1, 0), 4, 0x0a0a0a0a, api.OK)
	if !bytes.Equal(all, []byte{1, 2, 3, 4, 5, 6}) {
		t.Errorf("Store changed what was handed to Make: %v", all)
	}
	holds(t, m, 2, 1, 2, 3, 4)
	clear(all)
	holds(t, m, 1, 10, 10, 10, 10)
	holds(t, m, 2, 1, 2, 3, 4)
	unread(t, m, mem.At(1, 0), 5, api.ErrFault)
	for range 2 {
		read, _ := m.Read(mem.At(2, 1), 2)
		whole, _ := m.Area(2)
		clear(read[:cap(read)])
		if !bytes.Equal(whole, []byte{1, 2, 3, 4}) {
			t.Errorf("what Read and Area answered is shared: %v", whole)
		}
		clear(whole[:cap(whole)])
		holds(t, m, 1, 10, 10, 10, 10)
		holds(t, m, 2, 1, 2, 3, 4)
	}
	read, _ := m.Read(mem.At(2, 0), 4)
	whole, _ := m.Area(2)
	stores(t, m, mem.At(2, 0), 4, 0, api.OK)
	if !bytes.Equal(read, []byte{1, 2, 3, 4}) || !bytes.Equal(whole, []byte{1, 2, 3, 4}) {
		t.Errorf("Store changed what was answered ahead of it: %v, %v", read, whole)
	}
}

// cell is a byte of an area.
type cell struct {
	area         int
	b            byte
	blank, fixed bool
}

// model is memory byte by byte, by where each is; behind: the places behind areas' last bytes.
type model struct {
	cells  map[uint64]cell
	behind map[uint64]bool
	areas  map[int]int
}

// where is where an area's byte is, by numbers of any size.
func where(area, off int) uint64 {
	n := new(big.Int).Lsh(big.NewInt(int64(area)), 32)
	n.Add(n, big.NewInt(int64(off)))
	return n.And(n, new(big.Int).SetUint64(math.MaxUint64)).Uint64()
}

func (m model) make(area int, b []byte, blank, fixed bool) api.Errno {
	if _, ok := m.areas[area]; ok || area <= 0 || area >= 1<<31 {
		return api.ErrArg
	}
	if len(b) > 1024 {
		return api.ErrLong
	}
	m.areas[area] = len(b)
	m.behind[where(area, len(b))] = true
	for i, x := range b {
		m.cells[where(area, i)] = cell{area, x, blank, fixed}
	}
	return api.OK
}

// there tells whether size bytes from at on are of one area.
func (m model) there(at uint64, size int) bool {
	first, ok := m.cells[at]
	if size == 0 {
		return ok || m.behind[at]
	}
	for i := range size {
		c, is := m.cells[at+uint64(i)]
		ok = ok && is && c.area == first.area
	}
	return ok
}

func (m model) read(at uint64, size int) ([]byte, api.Errno) {
	if size < 0 || size > 1024 {
		return nil, api.ErrArg
	}
	if !m.there(at, size) {
		return nil, api.ErrFault
	}
	var b []byte
	for i := range size {
		c := m.cells[at+uint64(i)]
		if c.blank {
			return nil, api.ErrBlank
		}
		b = append(b, c.b)
	}
	return b, api.OK
}

func (m model) load(at uint64, size int) (uint64, api.Errno) {
	if !slices.Contains([]int{1, 2, 4, 8}, size) {
		return 0, api.ErrArg
	}
	b, e := m.read(at, size)
	n := new(big.Int)
	for _, x := range slices.Backward(b) {
		n.Add(n.Mul(n, big.NewInt(256)), big.NewInt(int64(x)))
	}
	return n.Uint64(), e
}

func (m model) store(at uint64, size int, n uint64) api.Errno {
	if !slices.Contains([]int{1, 2, 4, 8}, size) {
		return api.ErrArg
	}
	if !m.there(at, size) {
		return api.ErrFault
	}
	if m.cells[at].fixed {
		return api.ErrFixed
	}
	for i := range size {
		c := m.cells[at+uint64(i)]
		c.b, c.blank = byte(n%256), false
		m.cells[at+uint64(i)] = c
		n /= 256
	}
	return api.OK
}

// same asks whether all that memory tells is as the model has it.
func same(t *testing.T, m *mem.Mem, as model) bool {
	t.Helper()
	for area, n := range as.areas {
		b, ok := m.Area(area)
		if !ok || len(b) != n {
			t.Errorf("Area(%d) = %v, %t; want %d bytes, true", area, b, ok, n)
			return false
		}
		for i := range n {
			c := as.cells[where(area, i)]
			read, e := m.Read(where(area, i), 1)
			if b[i] != c.b || (e == api.ErrBlank) != c.blank || e == api.OK && read[0] != c.b {
				t.Errorf("byte %d of area %d is %d, Read tells %v, %d; want %v", i, area, b[i], read, e, c)
				return false
			}
		}
	}
	return true
}

// deal does one call that is drawn on both, and tells whether they answer the same.
func deal(t *testing.T, r *rand.Rand, m *mem.Mem, as model) bool {
	t.Helper()
	areas := []int{1, 2, 3, 4, 4096, 1 << 20, most - 1, most, 0, -1, most + 1, 1<<32 + 1}
	lengths := []int{0, 1, 2, 4, 7, 8, 9, 16, 1025}
	sizes := []int{1, 2, 4, 8, 1, 2, 4, 8, 0, 3, 5, 9, 16, -1, 1024, 1025}
	area, size := areas[r.IntN(len(areas))], sizes[r.IntN(len(sizes))]
	at := where(area, r.IntN(20)-2)
	switch r.IntN(8) {
	case 0:
		b := count(lengths[r.IntN(len(lengths))])
		blank, fixed := r.IntN(2) == 0, r.IntN(4) == 0
		got, want := m.Make(area, b, blank, fixed), as.make(area, b, blank, fixed)
		if got != want {
			t.Errorf("Make(%d, %d bytes, %t, %t) = %d; want %d", area, len(b), blank, fixed, got, want)
		}
		return got == want
	case 1:
		got, e := m.Read(at, size)
		want, f := as.read(at, size)
		if e != f || !bytes.Equal(got, want) {
			t.Errorf("Read(%#x, %d) = %v, %d; want %v, %d", at, size, got, e, want, f)
		}
		return e == f && bytes.Equal(got, want)
	case 2, 3:
		got, e := m.Load(at, size)
		want, f := as.load(at, size)
		if got != want || e != f {
			t.Errorf("Load(%#x, %d) = %#x, %d; want %#x, %d", at, size, got, e, want, f)
		}
		return got == want && e == f
	}
	n := r.Uint64()
	got, want := m.Store(at, size, n), as.store(at, size, n)
	if got != want {
		t.Errorf("Store(%#x, %d, %#x) = %d; want %d", at, size, n, got, want)
	}
	return got == want
}

// P8.3: what was stored is loaded, till something else is stored over it; nothing else changes, by whatever call, refused or not.
func TestAgainstBytesOneByOne(t *testing.T) {
	for seed := range uint64(60) {
		r := rand.New(rand.NewPCG(seed, 8))
		m := mem.New()
		as := model{cells: map[uint64]cell{}, behind: map[uint64]bool{}, areas: map[int]int{}}
		for range 300 {
			if !deal(t, r, m, as) || !same(t, m, as) {
				t.Fatalf("of draws %d", seed)
			}
		}
	}
}

// P8.3: each number that is stored is loaded, at each place of an area, and what lies beside it stays, blank or not.
func TestStoredIsLoaded(t *testing.T) {
	numbers := []uint64{0, 1, 127, 128, 255, 256, 1<<15 - 1, 1 << 15, 1<<16 - 1, 1 << 16, 1 << 31, 1<<32 - 1, 1 << 32, 1<<63 - 1, 1 << 63, math.MaxUint64, 0x0123456789abcdef}
	for _, blank := range []bool{false, true} {
		for _, size := range []int{1, 2, 4, 8} {
			for off := range 17 - size {
				m := made(t, 1, count(16), blank, false)
				make1(t, m, 2, count(16), blank, false)
				for _, n := range numbers {
					want := n
					if size < 8 {
						want = n % (1 << (8 * size))
					}
					stores(t, m, mem.At(1, off), size, n, api.OK)
					loads(t, m, mem.At(1, off), size, want, api.OK)
				}
				holds(t, m, 2, count(16)...)
				asMade := made(t, 1, count(16), blank, false)
				for i := range 16 {
					if i < off || i >= off+size {
						want, e := asMade.Load(mem.At(1, i), 1)
						loads(t, m, mem.At(1, i), 1, want, e)
					}
				}
			}
		}
	}
}
