package insn

import (
	"bytes"
	"testing"

	"hackle/api"
)

// layouts are instructions and their bytes, worked out by hand from the chapter.
var layouts = []struct {
	x api.Insn
	b []byte
}{
	{api.Insn{}, []byte{0, 0, 0, 0, 0, 0, 0, 0}},
	{api.Insn{Op: 183, Dst: 1, Imm: -1}, []byte{183, 1, 0, 0, 255, 255, 255, 255}},
	{api.Insn{Op: 255, Dst: 15, Src: 15, Off: -1, Imm: -1}, []byte{255, 255, 255, 255, 255, 255, 255, 255}},
	{api.Insn{Op: 1}, []byte{1, 0, 0, 0, 0, 0, 0, 0}},
	{api.Insn{Dst: 15}, []byte{0, 15, 0, 0, 0, 0, 0, 0}},
	{api.Insn{Src: 15}, []byte{0, 240, 0, 0, 0, 0, 0, 0}},
	{api.Insn{Dst: 3, Src: 10}, []byte{0, 163, 0, 0, 0, 0, 0, 0}},
	{api.Insn{Off: 258}, []byte{0, 0, 2, 1, 0, 0, 0, 0}},
	{api.Insn{Off: 128}, []byte{0, 0, 128, 0, 0, 0, 0, 0}},
	{api.Insn{Off: 32767}, []byte{0, 0, 255, 127, 0, 0, 0, 0}},
	{api.Insn{Off: -32768}, []byte{0, 0, 0, 128, 0, 0, 0, 0}},
	{api.Insn{Off: -2}, []byte{0, 0, 254, 255, 0, 0, 0, 0}},
	{api.Insn{Imm: 0x01020304}, []byte{0, 0, 0, 0, 4, 3, 2, 1}},
	{api.Insn{Imm: 0x00808080}, []byte{0, 0, 0, 0, 128, 128, 128, 0}},
	{api.Insn{Imm: 1<<31 - 1}, []byte{0, 0, 0, 0, 255, 255, 255, 127}},
	{api.Insn{Imm: -1 << 31}, []byte{0, 0, 0, 0, 0, 0, 0, 128}},
	{api.Insn{Op: 97, Dst: 4, Src: 9, Off: -300, Imm: -70000}, []byte{97, 148, 212, 254, 144, 238, 254, 255}},
}

// P1.1: each field has its bytes, the lowest first.
func TestPutLaysFields(t *testing.T) {
	for _, c := range layouts {
		b, e := Put(c.x)
		if e != api.OK || !bytes.Equal(b, c.b) {
			t.Errorf("Put(%v) = %v, %d; want %v, OK", c.x, b, e, c.b)
		}
	}
}

// P1.1: registers up to 15 fit, greater ones do not, whatever the other fields are.
func TestPutRefusesRegistersAbove15(t *testing.T) {
	for dst := range 256 {
		for src := range 256 {
			x := api.Insn{Op: 183, Dst: uint8(dst), Src: uint8(src), Off: 1, Imm: 1}
			b, e := Put(x)
			if dst > 15 || src > 15 {
				if e != api.ErrArg || len(b) != 0 {
					t.Fatalf("Put(%v) = %v, %d; want none, ErrArg", x, b, e)
				}
				continue
			}
			if e != api.OK || len(b) != 8 || int(b[1]) != dst+16*src {
				t.Fatalf("Put(%v) = %v, %d", x, b, e)
			}
		}
	}
}

// P1.1: what Put answers is the caller's.
func TestPutAnswersNewMemory(t *testing.T) {
	x := api.Insn{Op: 183, Dst: 1, Imm: 7}
	a, _ := Put(x)
	clear(a)
	b, _ := Put(x)
	if !bytes.Equal(b, []byte{183, 1, 0, 0, 7, 0, 0, 0}) {
		t.Errorf("Put(%v) = %v behind a change of an earlier answer", x, b)
	}
}

// P1.1: bytes are the instruction of which they are put.
func TestTakeReadsFields(t *testing.T) {
	for _, c := range layouts {
		x, e := Take(c.b)
		if e != api.OK || x != c.x {
			t.Errorf("Take(%v) = %v, %d; want %v, OK", c.b, x, e, c.x)
		}
	}
}

// P1.1: bytes that are not eight are no instruction, however much room is behind them.
func TestTakeRefusesOtherLengths(t *testing.T) {
	room := bytes.Repeat([]byte{255}, 64)
	for n := range len(room) + 1 {
		x, e := Take(room[:n])
		if n == 8 {
			if e != api.OK {
				t.Errorf("Take of 8 bytes = %v, %d; want OK", x, e)
			}
			continue
		}
		if e != api.ErrCorrupt || x != (api.Insn{}) {
			t.Errorf("Take of %d bytes = %v, %d; want zero, ErrCorrupt", n, x, e)
		}
	}
	if x, e := Take(nil); e != api.ErrCorrupt || x != (api.Insn{}) {
		t.Errorf("Take(nil) = %v, %d; want zero, ErrCorrupt", x, e)
	}
}

// P1.1: bytes that are handed in stay as they are.
func TestTakeLeavesItsBytes(t *testing.T) {
	b := []byte{183, 33, 1, 2, 3, 4, 5, 6, 7, 8}
	was := bytes.Clone(b)
	Take(b[:8])
	Take(b)
	if !bytes.Equal(b, was) {
		t.Errorf("Take made %v of %v", b, was)
	}
}

// P1.2: of all Ops the class is what is left by 8, and 24 alone is wide; no other field matters.
func TestClassAndWideOfAllOps(t *testing.T) {
	for op := range 256 {
		for _, x := range []api.Insn{{}, {Dst: 255, Src: 255, Off: -1, Imm: -1}, {Src: 1, Off: 24, Imm: 24}} {
			x.Op = uint8(op)
			if c := Class(x); int(c) != op-op/8*8 {
				t.Errorf("Class(%v) = %d", x, c)
			}
			if w := Wide(x); w != (op == 24) {
				t.Errorf("Wide(%v) = %t", x, w)
			}
		}
	}
}

// P1.2: the first one's number is the lower half, the second one's the higher.
func TestLongPutsHalvesTogether(t *testing.T) {
	for _, c := range []struct {
		low, high int32
		want      uint64
	}{
		{0, 0, 0},
		{1, 0, 1},
		{0, 1, 1 << 32},
		{-1, 0, 0xffffffff},
		{-1, 1, 0x1ffffffff},
		{0, -1, 0xffffffff00000000},
		{-1, -1, 0xffffffffffffffff},
		{-1 << 31, 0, 1 << 31},
		{0, -1 << 31, 1 << 63},
		{1<<31 - 1, 1<<31 - 1, 0x7fffffff7fffffff},
		{0x55667788, 0x11223344, 0x1122334455667788},
	} {
		if n := Long(api.Insn{Imm: c.low}, api.Insn{Imm: c.high}); n != c.want {
			t.Errorf("Long of %d and %d = %#x; want %#x", c.low, c.high, n, c.want)
		}
	}
}

// P1.2: fields beside Imm do not matter.
func TestLongReadsImmAlone(t *testing.T) {
	x := api.Insn{Op: 24, Dst: 255, Src: 255, Off: -1, Imm: 5}
	y := api.Insn{Op: 255, Dst: 255, Src: 255, Off: -1, Imm: 6}
	if n := Long(x, y); n != 6<<32+5 {
		t.Errorf("Long(%v, %v) = %#x", x, y, n)
	}
}

// checkBytes holds eight bytes against what is taken of them and put again.
func checkBytes(t *testing.T, b []byte) {
	t.Helper()
	x, e := Take(b)
	again, f := Put(x)
	if e != api.OK || f != api.OK || !bytes.Equal(b, again) {
		t.Fatalf("Take(%v) = %v, %d; Put of it = %v, %d", b, x, e, again, f)
	}
}

// checkInsn holds an instruction against what is put of it and taken again.
func checkInsn(t *testing.T, x api.Insn) {
	t.Helper()
	b, e := Put(x)
	again, f := Take(b)
	if e != api.OK || f != api.OK || x != again {
		t.Fatalf("Put(%v) = %v, %d; Take of it = %v, %d", x, b, e, again, f)
	}
}

// P1.3: eight bytes are put as they were taken, whatever stands in each place.
func TestTakenBytesArePutAgain(t *testing.T) {
	for _, rest := range []byte{0, 1, 0x7f, 0x80, 0xff} {
		for place := range 8 {
			for n := range 256 {
				b := bytes.Repeat([]byte{rest}, 8)
				b[place] = byte(n)
				checkBytes(t, b)
			}
		}
	}
}

// P1.3: instructions are taken as they were put, at the edges of each field.
func TestPutInsnsAreTakenAgain(t *testing.T) {
	for _, op := range []uint8{0, 1, 24, 127, 128, 255} {
		for regs := range 256 {
			for _, off := range []int16{-32768, -256, -1, 0, 1, 255, 256, 32767} {
				for _, imm := range []int32{-1 << 31, -65536, -1, 0, 1, 255, 65536, 1<<31 - 1} {
					checkInsn(t, api.Insn{Op: op, Dst: uint8(regs % 16), Src: uint8(regs / 16), Off: off, Imm: imm})
				}
			}
		}
	}
}
