package fact_test

import (
	"math"
	"math/rand/v2"
	"testing"

	"hackle/alu"
	"hackle/api"
	"hackle/cond"
	"hackle/fact"
	"hackle/span"
	"hackle/tnum"
)

const (
	most  = math.MaxUint64
	most4 = math.MaxUint32
)

// none is what is answered where there is nothing.
var none = api.Fact{}

// arith is the numbers of all arithmetic that there is.
var arith = []uint8{0x00, 0x10, 0x20, 0x30, 0x40, 0x50, 0x60, 0x70, 0x80, 0x90, 0xa0, 0xb0, 0xc0}

// conds is the numbers of all conditions that there are.
var conds = []uint8{0x00, 0x10, 0x20, 0x30, 0x40, 0x50, 0x60, 0x70, 0xa0, 0xb0, 0xc0, 0xd0}

// wrong are facts that are not right: bits or range that aren't, both, nothing that both have, and not settled.
var wrong = []api.Fact{
	of(1, 1, 0, 1),
	of(1<<63, 1<<63, 0, most),
	of(0, 7, 5, 4),
	of(0, most, most, 0),
	of(3, 1, 9, 8),
	of(0, 7, 8, 9),
	of(8, 3, 0, 7),
	of(2, 0, 1, 1),
	of(0, 6, 1, 1),
	of(0, 0, 0, 1),
	of(0, 7, 3, 100),
	of(0, 7, 3, 8),
	of(0, most, 0, 7),
	of(8, 7, 7, 15),
	of(0, most, 1<<32, 1<<32+1),
	of(1<<32, 1, 1<<32-1, 1<<32+1),
	of(0, 0, 0, most),
}

// of is a fact of a value, a mask, a least and a greatest number.
func of(value, mask, low, high uint64) api.Fact {
	return api.Fact{Bits: api.Tnum{Value: value, Mask: mask}, Range: api.Span{Low: low, High: high}}
}

// has tells whether a number may be what is known, by bits and by range as they are.
func has(f api.Fact, n uint64) bool {
	return (n^f.Bits.Value)&^f.Bits.Mask == 0 && n >= f.Range.Low && n <= f.Range.High
}

// wantSettle is the chapter's Settle, bit by bit.
func wantSettle(f api.Fact) (api.Fact, bool) {
	if f.Bits.Value&f.Bits.Mask != 0 || f.Range.Low > f.Range.High {
		return none, false
	}
	for g := none; g != f; {
		g = f
		f.Range.Low = max(f.Range.Low, f.Bits.Value)
		f.Range.High = min(f.Range.High, f.Bits.Value+f.Bits.Mask)
		if f.Range.Low > f.Range.High {
			return none, false
		}
		for i := 63; i >= 0; i-- {
			bit := uint64(1) << i
			if f.Range.Low&bit != f.Range.High&bit {
				break
			}
			if f.Bits.Mask&bit != 0 {
				f.Bits.Mask -= bit
				f.Bits.Value += f.Range.Low & bit
			} else if f.Bits.Value&bit != f.Range.Low&bit {
				return none, false
			}
		}
	}
	return f, true
}

// right tells whether a fact is settled, by wantSettle.
func right(fs ...api.Fact) bool {
	for _, f := range fs {
		if g, ok := wantSettle(f); !ok || g != f {
			return false
		}
	}
	return true
}

// must is wantSettle of what can be settled; of what nothing may be the zero fact.
func must(t api.Tnum, s api.Span) api.Fact {
	f, _ := wantSettle(api.Fact{Bits: t, Range: s})
	return f
}

// wantCut is the chapter's Cut, of a fact that is right.
func wantCut(f api.Fact) api.Fact {
	s := f.Range
	if s.High >= 1<<32 {
		s = api.Span{Low: 0, High: 1<<32 - 1}
	}
	return must(api.Tnum{Value: f.Bits.Value % (1 << 32), Mask: f.Bits.Mask % (1 << 32)}, s)
}

// wantDo is the chapter's P6.2.
func wantDo(op uint8, wide bool, off int16, a, b api.Fact) (api.Fact, api.Errno) {
	if _, e := alu.Do(op, wide, off, 0, 0); e == api.ErrArg || !right(a, b) {
		return none, api.ErrArg
	}
	if wide {
		return wantMade(op, 64, off, a, b), api.OK
	}
	return wantCut(wantMade(op, 32, off, wantCut(a), wantCut(b))), api.OK
}

// wantMade is what comes of wantDo's x and y, not cut.
func wantMade(op uint8, width uint64, off int16, x, y api.Fact) api.Fact {
	known := y.Bits.Mask == 0
	if x.Bits.Mask == 0 && known {
		n, _ := alu.Do(op, width == 64, off, x.Bits.Value, y.Bits.Value)
		return of(n, 0, n, n)
	}
	name := map[uint8]string{0x00: "both", 0x10: "both", 0x20: "both", 0x40: "both", 0x50: "both", 0xa0: "both", 0x30: "div", 0x90: "mod", 0x60: "move", 0x70: "move", 0xb0: "mov"}[op]
	switch {
	case off != 0 || name == "":
		return of(0, most, 0, most)
	case name == "mov":
		return y
	case name == "div" && known && y.Bits.Value == 0:
		return none
	case name == "mod" && known && y.Bits.Value == 0:
		return x
	case name == "move" && !known:
		return of(0, most, 0, most)
	case name == "move":
		n := y.Bits.Value % width
		y = of(n, 0, n, n)
	}
	t, ok := tnum.Do(op, x.Bits, y.Bits)
	if !ok {
		t = api.Tnum{Mask: most}
	}
	return must(t, span.Do(op, x.Range, y.Range))
}

// wantIf is the chapter's P6.3.
func wantIf(op uint8, wide bool, a, b api.Fact) (api.Fact, api.Fact, bool) {
	if !right(a, b) {
		return none, none, false
	}
	if a.Bits.Mask == 0 && b.Bits.Mask == 0 {
		if is, _ := cond.Is(op, wide, a.Bits.Value, b.Bits.Value); is {
			return a, b, true
		}
		return none, none, false
	}
	if !wide && (a.Range.High >= 1<<32 || b.Range.High >= 1<<32) {
		return a, b, true
	}
	x, y := a, b
	var ok1, ok2, ok3 = true, true, true
	x.Range, ok1 = span.If(op, a.Range, b.Range)
	if turned, ok := cond.Turned(op); ok {
		y.Range, ok2 = span.If(turned, b.Range, a.Range)
	}
	if op == 0x10 {
		x.Bits, ok3 = tnum.Meet(a.Bits, b.Bits)
		y.Bits = x.Bits
	}
	x, ok4 := wantSettle(x)
	y, ok5 := wantSettle(y)
	if !(ok1 && ok2 && ok3 && ok4 && ok5) {
		return none, none, false
	}
	return x, y, true
}

// small is all facts of so many bits that are right.
func small(width int) []api.Fact {
	var fs []api.Fact
	for i := range uint64(1) << (4 * width) {
		m := uint64(1)<<width - 1
		f := of(i&m, i>>width&m, i>>(2*width)&m, i>>(3*width)&m)
		if right(f) {
			fs = append(fs, f)
		}
	}
	return fs
}

// moved are facts, so many places higher, and with all bits of more above them, settled.
func moved(fs []api.Fact, places int, more uint64) []api.Fact {
	var gs []api.Fact
	for _, f := range fs {
		g := of(f.Bits.Value<<places|more, f.Bits.Mask<<places, f.Range.Low<<places|more, f.Range.High<<places|more)
		if g, ok := wantSettle(g); ok {
			gs = append(gs, g)
		}
	}
	return gs
}

// edges is facts at which something changes.
func edges() []api.Fact {
	fs := []api.Fact{
		of(0, most, 0, most), of(0, most, 1, most), of(0, most, 0, most-1), of(0, most-1, 0, most-1), of(1, most-1, 1, most),
		of(0, most4, 0, most4), of(0, most4, 1, most4), of(0, 1<<33-1, 0, 1<<32), of(0, 1<<33-1, 1<<31, 1<<32), of(0, 1<<33-1, most4, 1<<32),
		of(0, 1<<31-1, 0, 1<<31-1), of(0, most4, 1<<31-1, 1<<31), of(1<<31, 1<<31-1, 1<<31, most4),
		of(0, most, 1<<63-1, 1<<63), of(1<<63, 1<<63-1, 1<<63, most), of(0, 1<<63-1, 0, 1<<63-1),
		of(most4<<32, most4, most4<<32, most), of(most4-3, 3, most4-3, most4), of(1<<32, 3, 1<<32, 1<<32+3), of(5, 1<<32, 5, 1<<32+5),
		of(1<<40, 1<<35, 1<<40, 1<<40+1<<35), of(0, 127, 60, 70), of(32, 1, 32, 33), of(1<<32+7, 0, 1<<32+7, 1<<32+7),
		of(0, 15, 6, 9), of(1, 4, 2, 4), of(0, 3<<31, 0, 3<<31), of(0, 3<<31, 1, 1<<32),
	}
	for _, n := range []uint64{0, 1, 2, 3, 31, 32, 33, 63, 64, 65, 1<<31 - 1, 1 << 31, most4, 1 << 32, 1<<32 + 1, 1<<32 + 31, 1<<63 - 1, 1 << 63, 1<<63 + 1, most - 1, most} {
		fs = append(fs, of(n, 0, n, n))
	}
	return fs
}

// some is a fact that is right, and a number that may be it.
func some(r *rand.Rand) (api.Fact, uint64) {
	n := r.Uint64() >> r.UintN(64)
	mask := r.Uint64() & r.Uint64()
	if r.UintN(4) == 0 {
		mask |= r.Uint64()
	}
	mask >>= r.UintN(64)
	f := of(n&^mask, mask, 0, most)
	for range r.UintN(3) {
		by := r.Uint64() >> r.UintN(64)
		if r.UintN(2) == 0 {
			f.Range.Low = max(f.Range.Low, n-min(by, n))
		} else {
			f.Range.High = min(f.Range.High, n+min(by, most-n))
		}
	}
	f, _ = wantSettle(f)
	return f, n
}

// P6.1: the chapter's example, and others worked out by hand.
func TestSettle(t *testing.T) {
	for i, x := range []struct{ f, want api.Fact }{
		{of(0, 7, 3, 100), of(0, 7, 3, 7)},
		{of(0, most, 0, most), of(0, most, 0, most)},
		{of(0, most, 5, 5), of(5, 0, 5, 5)},
		{of(9, 0, 0, most), of(9, 0, 9, 9)},
		{of(0, most, 0, 7), of(0, 7, 0, 7)},
		{of(0, most, 0, 8), of(0, 15, 0, 8)},
		{of(0, most, 8, 9), of(8, 1, 8, 9)},
		{of(0, most, 7, 8), of(0, 15, 7, 8)},
		{of(8, 4, 0, most), of(8, 4, 8, 12)},
		{of(0, most, 1<<32, 1<<32+1), of(1<<32, 1, 1<<32, 1<<32+1)},
		{of(0, most, 1<<63-1, 1<<63), of(0, most, 1<<63-1, 1<<63)},
		{of(0, most, 1<<63, most), of(1<<63, 1<<63-1, 1<<63, most)},
		{of(0, most, most-1, most), of(most-1, 1, most-1, most)},
		{of(0, 9, 1, 7), of(1, 0, 1, 1)},                // 0, 1, 8 or 9
		{of(0, 0b101010, 0, 16), of(0, 0b1010, 0, 10)},  // the range makes bit 5 known, then the bits the range shorter
		{of(0, 0b101010, 9, 16), of(8, 0b10, 9, 10)},    // the shorter range makes bit 3 known
		{of(4, 0b101010, 8, 16), of(0b1100, 2, 12, 14)}, // that one the range shorter once more
		{of(1, 4, 2, 4), of(1, 4, 2, 4)},                // 1 or 5, none of which is there: no round tells it
		{of(1, 10, 2, 4), of(3, 0, 3, 3)},               // bit 3, then 3 at most, then bit 1, then 3 at least
		{of(0, 5, 4, 4), of(4, 0, 4, 4)},
		{of(0, most4, 0, 1<<32), of(0, most4, 0, most4)},
	} {
		if g, ok := fact.Settle(x.f); g != x.want || !ok {
			t.Error(i, g, ok)
		}
		if !fact.Right(x.want) || fact.Right(x.f) != (x.f == x.want) {
			t.Error(i, fact.Right(x.want), fact.Right(x.f))
		}
	}
	for i, f := range []api.Fact{
		of(1, 1, 0, most), of(1<<63, most, 0, most), of(3, 2, 3, 3), of(0, most, 1, 0), of(0, most, most, most-1), of(1, 1, 1, 0),
		of(0, 7, 8, 9), of(8, 0, 0, 7), of(8, 7, 16, 17), of(0, 6, 1, 1), of(2, 0, 3, 3), of(0, 5, 2, 3), of(0, 0b101010, 11, 16), of(1<<63, 0, 0, 1<<63-1),
		of(5, 5, 5, 5), of(0, 0, 1, most),
	} {
		if g, ok := fact.Settle(f); g != none || ok || fact.Right(f) {
			t.Error(i, g, ok, fact.Right(f))
		}
	}
}

// P6.1: Settle and Right of all that there is of four bits, and of the same at other places; no number gets lost, and none comes.
func TestSettleAll(t *testing.T) {
	for _, places := range []int{0, 29, 60} {
		for i := range uint64(1) << 16 {
			f := of(i&15<<places, i>>4&15<<places, i>>8&15<<places, i>>12&15<<places)
			want, may := wantSettle(f)
			g, ok := fact.Settle(f)
			if g != want || ok != may {
				t.Fatal(f, g, ok)
			}
			if fact.Right(f) != (may && want == f) || fact.Right(g) != ok && g != none {
				t.Fatal(f, fact.Right(f))
			}
			for n := range uint64(16) {
				n <<= places
				if f.Bits.Value&f.Bits.Mask == 0 && has(f, n) != (ok && has(g, n)) || fact.Has(g, n) != has(g, n) {
					t.Fatal(f, g, n)
				}
			}
		}
	}
}

// P6.1: Settle and Right of numbers of any size.
func TestSettleSome(t *testing.T) {
	r := rand.New(rand.NewPCG(6, 1))
	for range 100000 {
		f := of(r.Uint64()>>r.UintN(64), r.Uint64()>>r.UintN(64), r.Uint64()>>r.UintN(64), r.Uint64()>>r.UintN(64))
		if r.UintN(8) != 0 {
			f.Bits.Value &^= f.Bits.Mask
		}
		want, may := wantSettle(f)
		if g, ok := fact.Settle(f); g != want || ok != may || fact.Right(f) != (may && f == want) || ok && !fact.Right(g) {
			t.Fatal(f, g, ok)
		}
		g, n := some(r)
		if !fact.Right(g) || !fact.Has(g, n) {
			t.Fatal(g, n)
		}
	}
}

// P6.1: Of, Any, Known.
func TestOfAnyKnown(t *testing.T) {
	if f := fact.Any(); f != of(0, most, 0, most) || !fact.Right(f) {
		t.Error(f)
	}
	for _, n := range []uint64{0, 1, 7, most4, 1 << 32, 1 << 63, most} {
		f := fact.Of(n)
		if f != of(n, 0, n, n) || !fact.Right(f) {
			t.Error(n, f)
		}
		if m, ok := fact.Known(f); m != n || !ok {
			t.Error(n, m, ok)
		}
	}
	for i, f := range []api.Fact{of(0, most, 0, most), of(2, 1, 2, 3), of(1, 4, 1, 5), of(0, 1, 0, 1), of(1<<63, 1, 1<<63, 1<<63+1), of(1, 4, 2, 4)} {
		if n, ok := fact.Known(f); n != 0 || ok {
			t.Error(i, n, ok)
		}
	}
}

// P6.1: Has asks bits and range.
func TestHas(t *testing.T) {
	f := of(1, 14, 3, 12) // odd, from 3 to 12
	for n := range uint64(20) {
		if want := n%2 == 1 && n >= 3 && n <= 11; fact.Has(f, n) != want {
			t.Error(n)
		}
	}
	for _, f := range append(edges(), small(3)...) {
		for _, n := range []uint64{0, 1, 2, 3, 4, 5, 6, 7, 8, 31, 64, 1<<31 - 1, 1 << 31, most4, 1 << 32, 1<<32 + 5, 1<<63 - 1, 1 << 63, most - 1, most} {
			if fact.Has(f, n) != has(f, n) {
				t.Error(f, n)
			}
		}
	}
}

// P6.1: Within and Join, of all right facts of three bits.
func TestWithinJoin(t *testing.T) {
	fs := append(small(3), edges()...)
	for _, a := range fs {
		for _, b := range fs {
			bits := a.Bits.Mask|b.Bits.Mask == b.Bits.Mask && (a.Bits.Value^b.Bits.Value)&^b.Bits.Mask == 0
			if want := bits && a.Range.Low >= b.Range.Low && a.Range.High <= b.Range.High; fact.Within(a, b) != want {
				t.Fatal(a, b)
			}
			f := fact.Join(a, b)
			mask := a.Bits.Mask | b.Bits.Mask | (a.Bits.Value ^ b.Bits.Value)
			want := must(api.Tnum{Value: a.Bits.Value &^ mask, Mask: mask}, api.Span{Low: min(a.Range.Low, b.Range.Low), High: max(a.Range.High, b.Range.High)})
			if f != want || !fact.Right(f) || !fact.Within(a, f) || !fact.Within(b, f) {
				t.Fatal(a, b, f)
			}
		}
	}
	for i, x := range []struct {
		a, b   api.Fact
		within bool
		join   api.Fact
	}{
		{fact.Of(3), fact.Of(3), true, fact.Of(3)},
		{fact.Of(3), fact.Of(5), false, of(1, 6, 3, 5)},
		{of(0, 7, 2, 5), of(0, 7, 1, 5), true, of(0, 7, 1, 5)},
		{of(0, 7, 2, 5), of(0, 7, 2, 4), false, of(0, 7, 2, 5)},
		{of(0, 6, 2, 4), of(0, 7, 2, 4), true, of(0, 7, 2, 4)},
		{of(0, 7, 2, 4), of(0, 6, 2, 4), false, of(0, 7, 2, 4)},
		{fact.Of(most), fact.Any(), true, fact.Any()},
		{fact.Any(), fact.Of(most), false, fact.Any()},
		{fact.Of(0), fact.Of(1 << 63), false, of(0, 1<<63, 0, 1<<63)},
	} {
		if w, f := fact.Within(x.a, x.b), fact.Join(x.a, x.b); w != x.within || f != x.join {
			t.Error(i, w, f)
		}
	}
}

// P6.1: Cut.
func TestCut(t *testing.T) {
	for i, x := range []struct{ f, want api.Fact }{
		{fact.Any(), of(0, most4, 0, most4)},
		{fact.Of(5), fact.Of(5)},
		{fact.Of(most4), fact.Of(most4)},
		{fact.Of(1<<32 + 5), fact.Of(5)},
		{fact.Of(most), fact.Of(most4)},
		{of(0, most4, 3, most4), of(0, most4, 3, most4)},
		{of(0, 1<<33-1, 3, 1<<32), of(0, most4, 0, most4)},
		{of(1<<32, 6, 1<<32+2, 1<<32+6), of(0, 6, 0, 6)},
		{of(5, 1<<40, 5, 1<<40+5), of(5, 0, 5, 5)},
		{of(1<<63+8, 1<<33+4, 1<<63+8, 1<<63+1<<33+12), of(8, 4, 8, 12)},
		{of(1<<31, 15, 1<<31+3, 1<<31+9), of(1<<31, 15, 1<<31+3, 1<<31+9)},
	} {
		if !right(x.f) {
			t.Fatal(i, x.f)
		}
		if f := fact.Cut(x.f); f != x.want {
			t.Error(i, f)
		}
	}
	r := rand.New(rand.NewPCG(6, 2))
	for range 50000 {
		f, n := some(r)
		g := fact.Cut(f)
		if g != wantCut(f) || !fact.Right(g) || !fact.Has(g, n%(1<<32)) || fact.Cut(g) != g || g.Range.High > most4 {
			t.Fatal(f, g)
		}
	}
}

// P6.1, P6.2, P6.3: facts that are not right.
func TestNotRight(t *testing.T) {
	for i, f := range wrong {
		if right(f) || fact.Right(f) {
			t.Error(i)
		}
		if n, ok := fact.Known(f); n != 0 || ok {
			t.Error(i, n, ok)
		}
		for _, n := range []uint64{0, 1, 2, 3, 4, 5, 7, 8, 9, 1 << 32, 1 << 63, most} {
			if fact.Has(f, n) {
				t.Error(i, n)
			}
		}
		if g := fact.Cut(f); g != none {
			t.Error(i, g)
		}
		for _, g := range append(wrong, fact.Any(), fact.Of(0), fact.Of(3), of(0, 7, 3, 7)) {
			if fact.Within(f, g) || fact.Within(g, f) {
				t.Error(i, g)
			}
			if x, y := fact.Join(f, g), fact.Join(g, f); x != none || y != none {
				t.Error(i, x, y)
			}
			for op := range 256 {
				for _, wide := range []bool{false, true} {
					x, e := fact.Do(uint8(op), wide, 0, f, g)
					y, d := fact.Do(uint8(op), wide, 0, g, f)
					if x != none || y != none || e != api.ErrArg || d != api.ErrArg {
						t.Fatal(i, op, x, y, e, d)
					}
					x, y, may := fact.If(uint8(op), wide, f, g)
					z, w, can := fact.If(uint8(op), wide, g, f)
					if x != none || y != none || z != none || w != none || may || can {
						t.Fatal(i, op, x, y, z, w, may, can)
					}
				}
			}
		}
	}
}

// P6.2: the chapter's example, and others worked out by hand.
func TestDo(t *testing.T) {
	any4 := of(0, most4, 0, most4)
	for i, x := range []struct {
		op   uint8
		wide bool
		off  int16
		a, b api.Fact
		want api.Fact
	}{
		{api.And, true, 0, fact.Any(), fact.Of(12), of(0, 12, 0, 12)},
		{api.And, false, 0, fact.Any(), fact.Of(12), of(0, 12, 0, 12)},
		// Both are known.
		{api.Sub, true, 0, fact.Of(0), fact.Of(1), fact.Of(most)},
		{api.Sub, false, 0, fact.Of(0), fact.Of(1), fact.Of(most4)},
		{api.Neg, true, 0, fact.Of(3), fact.Of(0), fact.Of(most - 2)},
		{api.Arsh, true, 0, fact.Of(1 << 63), fact.Of(65), fact.Of(3 << 62)},
		{api.Div, true, 1, fact.Of(most - 6), fact.Of(2), fact.Of(most - 2)},
		{api.Mov, true, 8, fact.Of(0), fact.Of(0x80), fact.Of(most - 127)},
		{api.Mov, false, 16, fact.Of(0), fact.Of(0x8000), fact.Of(most4 - 0x7fff)},
		{api.Mov, true, 32, fact.Of(0), fact.Of(1 << 31), fact.Of(most - (1<<31 - 1))},
		{api.Add, false, 0, of(5, 1<<40, 5, 1<<40+5), fact.Of(1<<32 + 2), fact.Of(7)}, // known once they are cut
		{api.Lsh, false, 0, of(1, 1<<32, 1, 1<<32+1), fact.Of(33), fact.Of(2)},
		{api.Div, true, 0, fact.Of(7), fact.Of(0), fact.Of(0)},
		{api.Mod, true, 0, fact.Of(7), fact.Of(0), fact.Of(7)},
		// Mov.
		{api.Mov, true, 0, fact.Of(7), of(8, 3, 9, 11), of(8, 3, 9, 11)},
		{api.Mov, true, 0, fact.Any(), fact.Of(3), fact.Of(3)},
		{api.Mov, false, 0, fact.Of(7), of(1<<32, 3, 1<<32+1, 1<<32+3), of(0, 3, 0, 3)},
		{api.Mov, true, 8, fact.Of(0), of(0, 1, 0, 1), fact.Any()},
		{api.Mov, false, 8, fact.Of(0), of(0, 1, 0, 1), any4},
		{api.Mov, true, 8, fact.Any(), fact.Of(1), fact.Any()}, // the first is not known
		// By 0.
		{api.Div, true, 0, fact.Any(), fact.Of(0), fact.Of(0)},
		{api.Mod, true, 0, of(0, 7, 1, 6), fact.Of(0), of(0, 7, 1, 6)},
		{api.Mod, false, 0, of(1<<32, 7, 1<<32+1, 1<<32+6), fact.Of(1 << 33), of(0, 7, 0, 7)},
		{api.Div, false, 0, fact.Any(), fact.Of(1 << 32), fact.Of(0)},
		{api.Div, true, 1, fact.Any(), fact.Of(0), fact.Any()},
		{api.Mod, true, 1, of(0, 7, 1, 6), fact.Of(0), fact.Any()},
		{api.Mod, false, 1, of(0, 7, 1, 6), fact.Of(0), any4},
		// Moved by places that are known.
		{api.Lsh, true, 0, of(0, 3, 1, 3), fact.Of(4), of(0, 0x30, 0, 0x30)},
		{api.Lsh, true, 0, of(0, 3, 1, 3), fact.Of(68), of(0, 0x30, 0, 0x30)},
		{api.Lsh, true, 0, of(0, 3, 1, 3), fact.Of(63), of(0, 1<<63, 0, 1<<63)},
		{api.Lsh, true, 0, of(0, 3, 1, 3), fact.Of(32), of(0, 3<<32, 0, 3<<32)},
		{api.Lsh, false, 0, of(0, 3, 1, 3), fact.Of(36), of(0, 0x30, 0, 0x30)},
		{api.Lsh, false, 0, of(0, 3, 1, 3), fact.Of(31), of(0, 1<<31, 0, 1<<31)},
		{api.Lsh, true, 0, of(0, 3, 1, 3), of(0, 1, 0, 1), fact.Any()},
		{api.Rsh, true, 0, of(0, 0x7f, 0x21, 0x5f), fact.Of(4), of(0, 7, 2, 5)},
		{api.Rsh, true, 0, of(0, 0x7f, 0x21, 0x5f), fact.Of(most4<<32 + 68), of(0, 7, 2, 5)},
		{api.Rsh, false, 0, of(0, 0x7f, 0x21, 0x5f), fact.Of(36), of(0, 7, 2, 5)},
		{api.Rsh, true, 0, of(0, 0x7f, 0x21, 0x5f), fact.Of(36), fact.Of(0)},
		{api.Rsh, true, 0, of(0, 7, 1, 6), of(0, 1, 0, 1), fact.Any()},
		{api.Rsh, false, 0, of(0, 7, 1, 6), of(0, 1, 0, 1), any4},
		{api.Arsh, true, 0, of(0, 7, 1, 6), fact.Of(1), fact.Any()},
		{api.Neg, true, 0, of(0, 7, 1, 6), fact.Of(0), fact.Any()},
		{api.Neg, false, 0, of(0, 7, 1, 6), fact.Of(0), any4},
		// Bits and range.
		{api.Add, true, 0, of(0, 7, 1, 6), of(0, 3, 1, 2), of(0, 15, 2, 8)},
		{api.Add, true, 0, fact.Any(), fact.Of(1), fact.Any()},
		{api.Add, false, 0, any4, fact.Of(1), any4},
		{api.Add, false, 0, of(most4-3, 3, most4-3, most4), fact.Of(4), of(0, 3, 0, 3)},
		{api.Sub, true, 0, of(4, 3, 4, 6), of(0, 3, 1, 2), of(0, 7, 2, 5)},
		{api.Sub, true, 0, of(12, 3, 12, 14), of(0, 3, 1, 2), of(8, 7, 10, 13)},
		{api.Mul, true, 0, of(0, 7, 2, 6), fact.Of(2), of(0, 14, 4, 12)},
		{api.Mul, true, 0, of(0, 2, 0, 2), fact.Of(1 << 63), fact.Of(0)},
		{api.Or, true, 0, of(0, 3, 1, 3), fact.Of(4), of(4, 3, 4, 7)},
		{api.Xor, true, 0, of(0, 3, 1, 3), fact.Of(7), of(4, 3, 4, 7)},
		{api.Div, true, 0, of(0, 15, 6, 9), of(2, 1, 2, 3), of(0, 7, 2, 4)},
		{api.Div, true, 0, of(0, 15, 6, 9), of(0, 3, 0, 3), fact.Any()},
		{api.Mod, true, 0, fact.Any(), fact.Of(6), of(0, 7, 0, 5)},
		{api.Mod, true, 0, fact.Any(), of(0, 3, 0, 3), fact.Any()},
		{api.Mod, false, 0, fact.Any(), of(0, 3, 0, 3), any4},
	} {
		if !right(x.a, x.b) {
			t.Fatal(i, x)
		}
		if f, e := fact.Do(x.op, x.wide, x.off, x.a, x.b); f != x.want || e != api.OK {
			t.Error(i, f, e)
		}
	}
}

// P6.2: arithmetic that there isn't, and off that it has not.
func TestDoErrArg(t *testing.T) {
	offs := []int16{math.MinInt16, -8, -1, 0, 1, 2, 7, 8, 9, 15, 16, 17, 31, 32, 33, 64, math.MaxInt16}
	fs := []api.Fact{fact.Any(), fact.Of(0), fact.Of(5), of(0, 7, 3, 7), of(1<<32, 1, 1<<32, 1<<32+1)}
	for op := range 256 {
		for _, wide := range []bool{false, true} {
			for _, off := range offs {
				for _, a := range fs {
					for _, b := range fs {
						want, code := wantDo(uint8(op), wide, off, a, b)
						if f, e := fact.Do(uint8(op), wide, off, a, b); f != want || e != code {
							t.Fatal(op, wide, off, a, b, f, e)
						}
					}
				}
			}
		}
	}
	for i, x := range []struct {
		op   uint8
		wide bool
		off  int16
	}{{api.Add, true, 1}, {api.Mov, false, 32}, {api.Mov, true, 64}, {api.Div, true, 2}, {api.Mod, true, -1}, {0xd0, true, 0}, {0xff, false, 0}, {1, true, 0}} {
		if f, e := fact.Do(x.op, x.wide, x.off, fact.Of(1), fact.Of(2)); f != none || e != api.ErrArg {
			t.Error(i, f, e)
		}
	}
}

// offsOf is the offs that arithmetic may have.
func offsOf(op uint8, wide bool) []int16 {
	switch {
	case op == api.Div || op == api.Mod:
		return []int16{0, 1}
	case op == api.Mov && wide:
		return []int16{0, 8, 16, 32}
	case op == api.Mov:
		return []int16{0, 8, 16}
	}
	return []int16{0}
}

// P6.2: Do of all pairs of facts of a few bits, at places where something changes, and of edges.
func TestDoAll(t *testing.T) {
	lists := [][]api.Fact{small(3), moved(small(3), 30, 0), moved(small(2), 62, 0), moved(small(2), 0, 1<<40), append(edges(), small(2)...)}
	for _, as := range lists {
		for _, bs := range [][]api.Fact{as, lists[0]} {
			for _, a := range as {
				for _, b := range bs {
					doBoth(t, a, b)
				}
			}
		}
	}
}

// doBoth holds Do of all arithmetic against wantDo.
func doBoth(t *testing.T, a, b api.Fact) {
	for _, op := range arith {
		for _, wide := range []bool{false, true} {
			for _, off := range offsOf(op, wide) {
				want, code := wantDo(op, wide, off, a, b)
				f, e := fact.Do(op, wide, off, a, b)
				if f != want || e != code || !right(f) || !wide && f.Range.High > most4 {
					t.Fatal(op, wide, off, a, b, f, e, want)
				}
			}
		}
	}
}

// members is the numbers below a limit, moved so many places higher, that may be what is known.
func members(f api.Fact, limit uint64, places int) []uint64 {
	var ns []uint64
	for n := range limit {
		if has(f, n<<places) {
			ns = append(ns, n<<places)
		}
	}
	return ns
}

// P6.4: what arithmetic makes of numbers that may be a and b may be what Do tells, gone through one by one.
func TestDoHolds(t *testing.T) {
	for _, p := range [][2]int{{0, 0}, {30, 30}, {61, 61}, {30, 0}, {61, 0}, {0, 30}} {
		as, bs := moved(small(3), p[0], 0), moved(small(3), p[1], 0)
		for _, a := range as {
			for _, b := range bs {
				for _, op := range arith {
					for _, wide := range []bool{false, true} {
						for _, off := range offsOf(op, wide) {
							doHolds(t, op, wide, off, a, b, members(a, 8, p[0]), members(b, 8, p[1]))
						}
					}
				}
			}
		}
	}
}

// doHolds asks whether what arithmetic makes of all these numbers may be what Do tells.
func doHolds(t *testing.T, op uint8, wide bool, off int16, a, b api.Fact, ns, ms []uint64) {
	f, e := fact.Do(op, wide, off, a, b)
	if e != api.OK {
		t.Fatal(op, wide, off, a, b, e)
	}
	for _, n := range ns {
		for _, m := range ms {
			if z, _ := alu.Do(op, wide, off, n, m); !fact.Has(f, z) {
				t.Fatal(op, wide, off, a, b, f, n, m, z)
			}
		}
	}
}

// P6.2, P6.4: Do of facts of any size, with a number of each.
func TestDoSome(t *testing.T) {
	r := rand.New(rand.NewPCG(6, 3))
	for range 40000 {
		a, n := some(r)
		b, m := some(r)
		doBoth(t, a, b)
		for _, op := range arith {
			doHolds(t, op, r.UintN(2) == 0, 0, a, b, []uint64{n}, []uint64{m})
		}
	}
}

// P6.3: worked out by hand.
func TestIf(t *testing.T) {
	to9, five7 := of(0, 15, 0, 9), of(4, 3, 5, 7)
	big := of(0, 1<<33-1, 3, 1<<32)
	for i, x := range []struct {
		op         uint8
		wide       bool
		a, b, x, y api.Fact
		may        bool
	}{
		{api.Jlt, true, to9, five7, of(0, 7, 0, 6), five7, true},
		{api.Jlt, false, to9, five7, of(0, 7, 0, 6), five7, true},
		{api.Jgt, true, to9, five7, of(0, 15, 6, 9), five7, true},
		{api.Jgt, true, five7, to9, five7, of(0, 7, 0, 6), true},
		{api.Jge, true, five7, of(6, 1, 6, 7), of(6, 1, 6, 7), of(6, 1, 6, 7), true},
		{api.Jle, true, to9, of(0, 7, 0, 5), of(0, 7, 0, 5), of(0, 7, 0, 5), true},
		{api.Jle, true, of(0, 15, 3, 9), of(0, 7, 0, 5), of(0, 7, 3, 5), of(0, 7, 3, 5), true},
		{api.Jlt, true, fact.Any(), fact.Of(8), of(0, 7, 0, 7), fact.Of(8), true},
		{api.Jgt, true, fact.Any(), fact.Of(most), none, none, false},
		{api.Jlt, true, to9, fact.Of(0), none, none, false},
		{api.Jgt, true, fact.Of(most), fact.Any(), fact.Of(most), of(0, most, 0, most-1), true},
		// Jeq: bits too.
		{api.Jeq, true, fact.Any(), fact.Of(12), fact.Of(12), fact.Of(12), true},
		{api.Jeq, true, of(0, 14, 0, 14), of(1, 14, 1, 15), none, none, false},
		{api.Jeq, true, of(0, 12, 0, 12), of(0, 6, 0, 6), of(0, 4, 0, 4), of(0, 4, 0, 4), true},
		{api.Jeq, true, to9, of(16, 3, 16, 19), none, none, false},
		{api.Jeq, true, of(1, 4, 1, 5), of(0, 7, 2, 4), of(1, 4, 2, 4), of(1, 4, 2, 4), true},
		{api.Jeq, true, of(0, 5, 0, 5), of(2, 1, 2, 3), none, none, false},
		{api.Jeq, false, of(0, 12, 0, 12), of(0, 6, 0, 6), of(0, 4, 0, 4), of(0, 4, 0, 4), true},
		// Jne takes an end off, if the other one is known; not in the midst.
		{api.Jne, true, to9, fact.Of(0), of(0, 15, 1, 9), fact.Of(0), true},
		{api.Jne, true, to9, fact.Of(9), of(0, 15, 0, 8), fact.Of(9), true},
		{api.Jne, true, to9, fact.Of(5), to9, fact.Of(5), true},
		{api.Jne, true, fact.Of(0), to9, fact.Of(0), of(0, 15, 1, 9), true},
		{api.Jne, true, of(0, 1, 0, 1), fact.Of(0), fact.Of(1), fact.Of(0), true},
		{api.Jne, true, of(0, 4, 0, 4), fact.Of(0), of(0, 4, 1, 4), fact.Of(0), true},
		// Jset.
		{api.Jset, true, to9, fact.Of(0), none, none, false},
		{api.Jset, true, fact.Of(0), to9, none, none, false},
		{api.Jset, true, to9, fact.Of(16), to9, fact.Of(16), true},
		// Signed ones, and what is no condition, tell nothing new.
		{api.Jsgt, true, to9, fact.Of(20), to9, fact.Of(20), true},
		{api.Jsle, true, fact.Any(), five7, fact.Any(), five7, true},
		{api.Ja, true, to9, five7, to9, five7, true},
		{0xe0, true, to9, five7, to9, five7, true},
		{0xff, false, to9, five7, to9, five7, true},
		{0x11, true, to9, five7, to9, five7, true},
		// Narrow ones ask no range of more than 32 bits.
		{api.Jlt, false, big, fact.Of(8), big, fact.Of(8), true},
		{api.Jlt, false, fact.Of(8), big, fact.Of(8), big, true},
		{api.Jlt, true, big, fact.Of(8), of(0, 7, 3, 7), fact.Of(8), true},
		{api.Jgt, false, of(0, most4, 3, most4), fact.Of(8), of(0, most4, 9, most4), fact.Of(8), true},
		{api.Jgt, false, fact.Of(most4), of(0, most4, 3, most4), fact.Of(most4), of(0, most4, 3, most4-1), true},
		{api.Jset, false, big, fact.Of(0), big, fact.Of(0), true},
		{api.Jeq, false, of(0, 1<<33-1, 0, 1<<32), fact.Of(1), of(0, 1<<33-1, 0, 1<<32), fact.Of(1), true},
		// Both are known.
		{api.Jlt, true, fact.Of(1), fact.Of(2), fact.Of(1), fact.Of(2), true},
		{api.Jlt, true, fact.Of(2), fact.Of(2), none, none, false},
		{api.Jlt, true, fact.Of(1 << 32), fact.Of(2), none, none, false},
		{api.Jlt, false, fact.Of(1 << 32), fact.Of(2), fact.Of(1 << 32), fact.Of(2), true},
		{api.Jslt, true, fact.Of(most), fact.Of(2), fact.Of(most), fact.Of(2), true},
		{api.Jsgt, true, fact.Of(most), fact.Of(2), none, none, false},
		{api.Jset, true, fact.Of(5), fact.Of(2), none, none, false},
		{api.Jset, true, fact.Of(7), fact.Of(2), fact.Of(7), fact.Of(2), true},
		{api.Ja, true, fact.Of(7), fact.Of(2), fact.Of(7), fact.Of(2), true},
		{0xe0, true, fact.Of(7), fact.Of(2), none, none, false},
		{0xff, false, fact.Of(7), fact.Of(2), none, none, false},
	} {
		if !right(x.a, x.b) {
			t.Fatal(i, x)
		}
		if a, b, may := fact.If(x.op, x.wide, x.a, x.b); a != x.x || b != x.y || may != x.may {
			t.Error(i, a, b, may)
		}
	}
}

// P6.3: all 256 ops, of facts of a few bits, and of edges.
func TestIfAll(t *testing.T) {
	lists := [][]api.Fact{small(3), moved(small(3), 30, 0), moved(small(2), 62, 0), append(edges(), small(2)...)}
	for _, fs := range lists {
		for _, a := range fs {
			for _, b := range fs {
				for _, op := range conds {
					ifBoth(t, op, a, b)
				}
			}
		}
	}
	for op := range 256 {
		for _, a := range edges() {
			for _, b := range edges() {
				ifBoth(t, uint8(op), a, b)
			}
		}
	}
}

// ifBoth holds If, narrow and wide, against wantIf.
func ifBoth(t *testing.T, op uint8, a, b api.Fact) {
	for _, wide := range []bool{false, true} {
		x, y, may := fact.If(op, wide, a, b)
		v, w, can := wantIf(op, wide, a, b)
		if x != v || y != w || may != can || may && !(right(x, y) && fact.Within(x, a) && fact.Within(y, b)) {
			t.Fatal(op, wide, a, b, x, y, may, v, w, can)
		}
	}
}

// P6.4: numbers of which a condition holds may be what If tells, gone through one by one.
func TestIfHolds(t *testing.T) {
	for _, places := range []int{0, 30, 61} {
		fs := moved(small(3), places, 0)
		for _, a := range fs {
			for _, b := range fs {
				for _, op := range conds {
					ifHolds(t, op, a, b, members(a, 8, places), members(b, 8, places))
				}
			}
		}
	}
}

// ifHolds asks whether all these numbers of which a condition holds may be what If tells.
func ifHolds(t *testing.T, op uint8, a, b api.Fact, ns, ms []uint64) {
	for _, wide := range []bool{false, true} {
		x, y, may := fact.If(op, wide, a, b)
		for _, n := range ns {
			for _, m := range ms {
				if is, _ := cond.Is(op, wide, n, m); is && !(may && fact.Has(x, n) && fact.Has(y, m)) {
					t.Fatal(op, wide, a, b, x, y, may, n, m)
				}
			}
		}
	}
}

// P6.3, P6.4: If of facts of any size, with a number of each; each second time numbers that are near.
func TestIfSome(t *testing.T) {
	r := rand.New(rand.NewPCG(6, 4))
	for i := range 40000 {
		a, n := some(r)
		b, m := some(r)
		if i%2 == 0 {
			b, _ = wantSettle(of(n&^7, 7, 0, most))
			m = n ^ r.Uint64N(8)
		}
		for _, op := range conds {
			ifBoth(t, op, a, b)
			ifBoth(t, op, b, a)
			ifHolds(t, op, a, b, []uint64{n}, []uint64{m})
		}
	}
}
