package span_test

import (
	"math"
	"math/big"
	"math/rand/v2"
	"slices"
	"testing"

	"hackle/alu"
	"hackle/api"
	"hackle/cond"
	"hackle/span"
)

// The chapter's numbers of what arithmetic does, written out here once more.
const (
	add = 0
	sub = 16
	mul = 32
	div = 48
	and = 80
	rsh = 112
	mod = 144
)

// Layer 3's numbers of conditions that are not signed.
const (
	ja   = 0
	jeq  = 16
	jgt  = 32
	jge  = 48
	jset = 64
	jne  = 80
	jlt  = 160
	jle  = 176
)

const most = math.MaxUint64

// none is what is answered where there are no numbers.
var none = api.Span{}

// all is all numbers, by the chapter's words.
var all = api.Span{Low: 0, High: most}

// wrong are spans that are not right.
var wrong = []api.Span{
	{Low: 1, High: 0},
	{Low: 6, High: 5},
	{Low: 1 << 32, High: 1<<32 - 1},
	{Low: 1 << 63, High: 1<<63 - 1},
	{Low: most, High: 0},
	{Low: most, High: most - 1},
}

// edges is numbers at which something changes, rising.
var edges = []uint64{
	0, 1, 2, 3, 5, 7, 8, 31, 32, 62, 63, 64, 65, 1<<31 - 1, 1 << 31, 1<<32 - 1, 1 << 32, 1<<32 + 1,
	1<<63 - 1, 1 << 63, 1<<63 + 1, most - 2, most - 1, most,
}

// spansOf is all spans from one of the numbers (rising) to one.
func spansOf(numbers []uint64) []api.Span {
	var l []api.Span
	for i, low := range numbers {
		for _, high := range numbers[i:] {
			l = append(l, api.Span{Low: low, High: high})
		}
	}
	return l
}

// width is how many numbers a row has, of which all spans are gone through.
const width = 7

// row is some numbers that follow each other, from first on.
func row(first uint64) []uint64 {
	var l []uint64
	for i := range uint64(width) {
		l = append(l, first+i)
	}
	return l
}

// numbersOf is all numbers of a span, if it is small.
func numbersOf(s api.Span) []uint64 {
	l := []uint64{s.Low}
	for l[len(l)-1] != s.High {
		l = append(l, l[len(l)-1]+1)
	}
	return l
}

// someOf is numbers of s: both ends, those beside them, edges, and some between.
func someOf(s api.Span, draw *rand.Rand) []uint64 {
	l := []uint64{s.Low, s.High}
	if s.Low != s.High {
		l = append(l, s.Low+1, s.High-1)
	}
	for _, n := range []uint64{0, 1, 2, 63, 1 << 32, 1 << 63} {
		if s.Low <= n && n <= s.High {
			l = append(l, n)
		}
	}
	for range 2 {
		if room := s.High - s.Low; room != most {
			l = append(l, s.Low+draw.Uint64N(room+1))
		}
	}
	return l
}

// eachSmallPair calls f of all pairs of spans within the first numbers of all, the last, and those about 2^63.
func eachSmallPair(f func(a, b api.Span)) {
	var l []api.Span
	for _, first := range []uint64{0, 1<<63 - 3, most - width + 1} {
		l = append(l, spansOf(row(first))...)
	}
	for _, a := range l {
		for _, b := range l {
			f(a, b)
		}
	}
}

// eachGreatPair calls f of all pairs of spans from edge to edge.
func eachGreatPair(f func(a, b api.Span)) {
	l := spansOf(edges)
	for _, a := range l {
		for _, b := range l {
			f(a, b)
		}
	}
}

// about is the least span that has all the numbers, and whether there is one.
func about(numbers []uint64) (api.Span, bool) {
	if len(numbers) == 0 {
		return none, false
	}
	return api.Span{Low: slices.Min(numbers), High: slices.Max(numbers)}, true
}

// P5.1: a span is right just if its Low is not above its High.
func TestRight(t *testing.T) {
	for _, low := range edges {
		for _, high := range edges {
			above := new(big.Int).SetUint64(low).Cmp(new(big.Int).SetUint64(high)) > 0
			if r := span.Right(api.Span{Low: low, High: high}); r == above {
				t.Errorf("Right(%d to %d) = %t", low, high, r)
			}
		}
	}
	for _, w := range wrong {
		if span.Right(w) {
			t.Errorf("Right(%d) = true", w)
		}
	}
}

// P5.1: All is from 0 to 2^64 - 1.
func TestAll(t *testing.T) {
	if a := span.All(); a != (api.Span{Low: 0, High: 18446744073709551615}) {
		t.Errorf("All() = %d", a)
	}
}

// P5.1: a number is in a span just if it is one from Low to High, with both.
func TestHas(t *testing.T) {
	for _, s := range spansOf(edges) {
		for _, n := range edges {
			want := slices.Index(edges, s.Low) <= slices.Index(edges, n) && slices.Index(edges, n) <= slices.Index(edges, s.High)
			if h := span.Has(s, n); h != want {
				t.Errorf("Has(%d, %d) = %t", s, n, h)
			}
		}
	}
	for _, c := range []struct {
		s    api.Span
		n    uint64
		want bool
	}{
		{api.Span{Low: 4, High: 6}, 3, false},
		{api.Span{Low: 4, High: 6}, 4, true},
		{api.Span{Low: 4, High: 6}, 5, true},
		{api.Span{Low: 4, High: 6}, 6, true},
		{api.Span{Low: 4, High: 6}, 7, false},
		{api.Span{Low: 4, High: 6}, most, false},
		{none, 0, true},
		{none, 1, false},
	} {
		if h := span.Has(c.s, c.n); h != c.want {
			t.Errorf("Has(%d, %d) = %t", c.s, c.n, h)
		}
	}
}

// P5.1: a span is within another one just if all of its numbers are in that.
func TestWithin(t *testing.T) {
	eachSmallPair(func(a, b api.Span) {
		want := true
		for _, n := range numbersOf(a) {
			want = want && b.Low <= n && n <= b.High
		}
		if w := span.Within(a, b); w != want {
			t.Errorf("Within(%d, %d) = %t", a, b, w)
		}
	})
	for _, s := range spansOf(edges) {
		if !span.Within(s, all) || span.Within(all, s) != (s == all) {
			t.Errorf("Within of %d and all numbers is wrong", s)
		}
	}
}

// P5.1: what is joined is from the lesser Low to the greater High, and no less would have both.
func TestJoin(t *testing.T) {
	check := func(a, b api.Span) {
		want, _ := about([]uint64{a.Low, a.High, b.Low, b.High})
		if j := span.Join(a, b); j != want {
			t.Errorf("Join(%d, %d) = %d; want %d", a, b, j, want)
		}
	}
	eachSmallPair(check)
	eachGreatPair(check)
}

// P5.1: what is met is the numbers that both have; zero and false, if there is none.
func TestMeet(t *testing.T) {
	eachSmallPair(func(a, b api.Span) {
		var both []uint64
		for _, n := range numbersOf(a) {
			if b.Low <= n && n <= b.High {
				both = append(both, n)
			}
		}
		want, wantOK := about(both)
		if m, ok := span.Meet(a, b); m != want || ok != wantOK {
			t.Errorf("Meet(%d, %d) = %d, %t; want %d, %t", a, b, m, ok, want, wantOK)
		}
	})
	eachGreatPair(func(a, b api.Span) {
		// Each end of what both have is an edge.
		var both []uint64
		for _, n := range edges {
			if a.Low <= n && n <= a.High && b.Low <= n && n <= b.High {
				both = append(both, n)
			}
		}
		want, wantOK := about(both)
		if m, ok := span.Meet(a, b); m != want || ok != wantOK {
			t.Errorf("Meet(%d, %d) = %d, %t; want %d, %t", a, b, m, ok, want, wantOK)
		}
	})
}

// P5.1, P5.2, P5.3: of what is not right, on either side, nothing is told.
func TestWrong(t *testing.T) {
	for _, w := range wrong {
		for _, n := range edges {
			if span.Has(w, n) {
				t.Errorf("Has(%d, %d) = true", w, n)
			}
		}
		for _, s := range append(spansOf(edges), wrong...) {
			for _, p := range [][2]api.Span{{w, s}, {s, w}} {
				refused(t, p[0], p[1])
			}
		}
	}
}

// refused wants nothing to be told of a and b.
func refused(t *testing.T, a, b api.Span) {
	t.Helper()
	if span.Within(a, b) {
		t.Errorf("Within(%d, %d) = true", a, b)
	}
	if j := span.Join(a, b); j != none {
		t.Errorf("Join(%d, %d) = %d", a, b, j)
	}
	if m, ok := span.Meet(a, b); m != none || ok {
		t.Errorf("Meet(%d, %d) = %d, %t", a, b, m, ok)
	}
	for op := range 256 {
		if d := span.Do(uint8(op), a, b); d != none {
			t.Errorf("Do(%d, %d, %d) = %d", op, a, b, d)
		}
		if s, ok := span.If(uint8(op), a, b); s != none || ok {
			t.Errorf("If(%d, %d, %d) = %d, %t", op, a, b, s, ok)
		}
	}
}

func whole(n uint64) *big.Int { return new(big.Int).SetUint64(n) }

// ends is what the chapter says of Do's Low and High, in numbers of any size; nil, where it says nothing.
func ends(op uint8, a, b api.Span) (low, high *big.Int) {
	aLow, aHigh, bLow, bHigh := whole(a.Low), whole(a.High), whole(b.Low), whole(b.High)
	lesser := func(x, y *big.Int) *big.Int {
		if x.Cmp(y) < 0 {
			return x
		}
		return y
	}
	zero, one := new(big.Int), big.NewInt(1)
	of := func() *big.Int { return new(big.Int) }
	switch op {
	case add:
		return of().Add(aLow, bLow), of().Add(aHigh, bHigh)
	case sub:
		return of().Sub(aLow, bHigh), of().Sub(aHigh, bLow)
	case mul:
		return of().Mul(aLow, bLow), of().Mul(aHigh, bHigh)
	case div:
		if bLow.Sign() != 0 {
			return of().Quo(aLow, bHigh), of().Quo(aHigh, bLow)
		}
	case mod:
		if bLow.Sign() != 0 {
			return zero, lesser(aHigh, of().Sub(bHigh, one))
		}
	case and:
		return zero, lesser(aHigh, bHigh)
	case rsh:
		if bHigh.Cmp(big.NewInt(64)) < 0 {
			return of().Rsh(aLow, uint(b.High)), of().Rsh(aHigh, uint(b.Low))
		}
	}
	return nil, nil
}

// worked is what the chapter says of Do, worked out in numbers of any size.
func worked(op uint8, a, b api.Span) api.Span {
	low, high := ends(op, a, b)
	if low == nil || !low.IsUint64() || !high.IsUint64() {
		return all
	}
	return api.Span{Low: low.Uint64(), High: high.Uint64()}
}

// P5.2: where arithmetic's numbers are, at all edges, of all ops.
func TestDo(t *testing.T) {
	check := func(a, b api.Span) {
		for _, op := range []uint8{add, sub, mul, div, mod, and, rsh} {
			if d, want := span.Do(op, a, b), worked(op, a, b); d != want {
				t.Fatalf("Do(%d, %d, %d) = %d; want %d", op, a, b, d, want)
			}
		}
	}
	eachSmallPair(check)
	eachGreatPair(check)
}

// P5.2: examples worked out by hand.
func TestDoByHand(t *testing.T) {
	type s = api.Span
	for _, c := range []struct {
		op         uint8
		a, b, want s
	}{
		{add, s{Low: 1, High: 2}, s{Low: 3, High: 4}, s{Low: 4, High: 6}},
		{add, s{Low: 0, High: most - 4}, s{Low: 3, High: 4}, s{Low: 3, High: most}},
		{add, s{Low: 0, High: most - 3}, s{Low: 3, High: 4}, all},
		{add, s{Low: most, High: most}, s{Low: most, High: most}, all},
		{sub, s{Low: 10, High: 20}, s{Low: 3, High: 4}, s{Low: 6, High: 17}},
		{sub, s{Low: 4, High: 20}, s{Low: 3, High: 4}, s{Low: 0, High: 17}},
		{sub, s{Low: 3, High: 20}, s{Low: 3, High: 4}, all},
		{sub, s{Low: 0, High: 1}, s{Low: 2, High: 3}, all},
		{mul, s{Low: 2, High: 3}, s{Low: 5, High: 7}, s{Low: 10, High: 21}},
		{mul, s{Low: 2, High: 1 << 32}, s{Low: 3, High: 1<<32 - 1}, s{Low: 6, High: 1<<64 - 1<<32}},
		{mul, s{Low: 2, High: 1 << 32}, s{Low: 3, High: 1 << 32}, all},
		{mul, s{Low: 0, High: 0}, s{Low: 0, High: most}, none},
		{div, s{Low: 7, High: 100}, s{Low: 2, High: 3}, s{Low: 2, High: 50}},
		{div, s{Low: 7, High: 100}, s{Low: 0, High: 3}, all},
		{div, s{Low: 0, High: 0}, s{Low: 0, High: 0}, all},
		{mod, s{Low: 7, High: 100}, s{Low: 2, High: 8}, s{Low: 0, High: 7}},
		{mod, s{Low: 2, High: 5}, s{Low: 7, High: 8}, s{Low: 0, High: 5}},
		{mod, s{Low: 2, High: 5}, s{Low: 1, High: 1}, none},
		{mod, s{Low: 2, High: 5}, s{Low: 0, High: 8}, all},
		{and, s{Low: 5, High: 7}, s{Low: 1, High: 9}, s{Low: 0, High: 7}},
		{and, s{Low: 5, High: 7}, s{Low: 1, High: 3}, s{Low: 0, High: 3}},
		{rsh, s{Low: 16, High: 64}, s{Low: 1, High: 3}, s{Low: 2, High: 32}},
		{rsh, s{Low: 1 << 63, High: most}, s{Low: 0, High: 63}, s{Low: 1, High: most}},
		{rsh, s{Low: 16, High: 64}, s{Low: 1, High: 64}, all},
		{rsh, s{Low: 16, High: 64}, s{Low: 64, High: 64}, all},
		{rsh, s{Low: 16, High: 64}, s{Low: 65, High: 1<<32 + 1}, all},
	} {
		if d := span.Do(c.op, c.a, c.b); d != c.want {
			t.Errorf("Do(%d, %d, %d) = %d; want %d", c.op, c.a, c.b, d, c.want)
		}
	}
}

// P5.2: of all ops that the chapter does not name, nothing is known.
func TestDoOfOthers(t *testing.T) {
	named := []uint8{add, sub, mul, div, mod, and, rsh}
	for op := range 256 {
		if slices.Contains(named, uint8(op)) {
			continue
		}
		for _, b := range []api.Span{none, {Low: 1, High: 1}, {Low: 1, High: 5}, all} {
			if d := span.Do(uint8(op), api.Span{Low: 3, High: 4}, b); d != all {
				t.Errorf("Do(%d, 3 to 4, %d) = %d", op, b, d)
			}
		}
	}
}

// holds is what layer 3 says of a condition that is not signed.
func holds(op uint8, x, y uint64) bool {
	switch order := whole(x).Cmp(whole(y)); op {
	case ja:
		return true
	case jeq:
		return order == 0
	case jne:
		return order != 0
	case jgt:
		return order > 0
	case jge:
		return order >= 0
	case jlt:
		return order < 0
	case jle:
		return order <= 0
	}
	panic("no condition of an order")
}

// kept is the least span of those numbers of xs of which, with one of ys, the condition holds.
func kept(op uint8, xs, ys []uint64) (api.Span, bool) {
	var l []uint64
	for _, x := range xs {
		if slices.ContainsFunc(ys, func(y uint64) bool { return holds(op, x, y) }) {
			l = append(l, x)
		}
	}
	return about(l)
}

// P5.3: what is left of a is the least span that has all numbers of which the condition may hold.
func TestIf(t *testing.T) {
	eachSmallPair(func(a, b api.Span) {
		xs, ys := numbersOf(a), numbersOf(b)
		for _, op := range []uint8{ja, jeq, jgt, jge, jne, jlt, jle} {
			want, wantOK := kept(op, xs, ys)
			if s, ok := span.If(op, a, b); s != want || ok != wantOK {
				t.Errorf("If(%d, %d, %d) = %d, %t; want %d, %t", op, a, b, s, ok, want, wantOK)
			}
		}
	})
}

// P5.3: the same of great spans: it's told by the edges of both and the numbers beside these.
func TestIfOfGreat(t *testing.T) {
	eachGreatPair(func(a, b api.Span) {
		var marks []uint64
		for _, n := range []uint64{a.Low, a.High, b.Low, b.High} {
			marks = append(marks, n-1, n, n+1)
		}
		xs := slices.DeleteFunc(slices.Clone(marks), func(n uint64) bool { return n < a.Low || n > a.High })
		ys := slices.DeleteFunc(slices.Clone(marks), func(n uint64) bool { return n < b.Low || n > b.High })
		for _, op := range []uint8{ja, jeq, jgt, jge, jne, jlt, jle} {
			want, wantOK := kept(op, xs, ys)
			if s, ok := span.If(op, a, b); s != want || ok != wantOK {
				t.Fatalf("If(%d, %d, %d) = %d, %t; want %d, %t", op, a, b, s, ok, want, wantOK)
			}
		}
	})
}

// P5.3: of Jset a, but none, if a or b is 0 alone.
func TestIfJset(t *testing.T) {
	check := func(a, b api.Span) {
		want, wantOK := a, true
		if a == none || b == none { // from 0 to 0
			want, wantOK = none, false
		}
		if s, ok := span.If(jset, a, b); s != want || ok != wantOK {
			t.Errorf("If(%d, %d, %d) = %d, %t; want %d, %t", jset, a, b, s, ok, want, wantOK)
		}
	}
	eachSmallPair(check)
	eachGreatPair(check)
}

// P5.3: of all other ops, signed conditions and what is none, a is left as it is.
func TestIfOfOthers(t *testing.T) {
	named := []uint8{jeq, jgt, jge, jset, jne, jlt, jle}
	for op := range 256 {
		if slices.Contains(named, uint8(op)) {
			continue
		}
		for _, a := range []api.Span{none, {Low: 1, High: 1}, {Low: 3, High: 4}, all} {
			for _, b := range []api.Span{none, {Low: 1, High: 1}, {Low: 3, High: 9}, {Low: most, High: most}, all} {
				if s, ok := span.If(uint8(op), a, b); s != a || !ok {
					t.Errorf("If(%d, %d, %d) = %d, %t", op, a, b, s, ok)
				}
			}
		}
	}
}

// P5.3: examples worked out by hand.
func TestIfByHand(t *testing.T) {
	type s = api.Span
	for _, c := range []struct {
		op         uint8
		a, b, want s
		ok         bool
	}{
		{jlt, s{Low: 0, High: 9}, s{Low: 5, High: 7}, s{Low: 0, High: 6}, true},
		{jlt, s{Low: 7, High: 9}, s{Low: 5, High: 7}, none, false},
		{jlt, all, none, none, false},
		{jle, s{Low: 0, High: 9}, s{Low: 5, High: 7}, s{Low: 0, High: 7}, true},
		{jle, all, none, none, true},
		{jgt, s{Low: 0, High: 9}, s{Low: 5, High: 7}, s{Low: 6, High: 9}, true},
		{jgt, s{Low: 0, High: 5}, s{Low: 5, High: 7}, none, false},
		{jgt, all, s{Low: most, High: most}, none, false},
		{jge, s{Low: 0, High: 9}, s{Low: 5, High: 7}, s{Low: 5, High: 9}, true},
		{jge, all, s{Low: most, High: most}, s{Low: most, High: most}, true},
		{jge, s{Low: 0, High: 4}, s{Low: 5, High: 7}, none, false},
		{jeq, s{Low: 0, High: 9}, s{Low: 5, High: 12}, s{Low: 5, High: 9}, true},
		{jeq, s{Low: 0, High: 4}, s{Low: 5, High: 12}, none, false},
		{jne, s{Low: 3, High: 9}, s{Low: 3, High: 3}, s{Low: 4, High: 9}, true},
		{jne, s{Low: 3, High: 9}, s{Low: 9, High: 9}, s{Low: 3, High: 8}, true},
		{jne, s{Low: 3, High: 9}, s{Low: 5, High: 5}, s{Low: 3, High: 9}, true},
		{jne, s{Low: 3, High: 9}, s{Low: 3, High: 4}, s{Low: 3, High: 9}, true},
		{jne, s{Low: 3, High: 3}, s{Low: 3, High: 4}, s{Low: 3, High: 3}, true},
		{jne, s{Low: 3, High: 3}, s{Low: 3, High: 3}, none, false},
		{jset, s{Low: 0, High: 5}, s{Low: 1, High: 7}, s{Low: 0, High: 5}, true},
		{jset, s{Low: 8, High: 8}, s{Low: 1, High: 7}, s{Low: 8, High: 8}, true},
		{jset, none, s{Low: 1, High: 7}, none, false},
	} {
		if got, ok := span.If(c.op, c.a, c.b); got != c.want || ok != c.ok {
			t.Errorf("If(%d, %d, %d) = %d, %t; want %d, %t", c.op, c.a, c.b, got, ok, c.want, c.ok)
		}
	}
}

// P5.4: what arithmetic makes of numbers of a and b is in Do, of all ops that there are.
func TestWhatArithmeticMakesIsInDo(t *testing.T) {
	draw := rand.New(rand.NewPCG(5, 4))
	eachGreatPair(func(a, b api.Span) {
		if draw.IntN(8) != 0 { // not all of these, which would take long
			return
		}
		xs, ys := someOf(a, draw), someOf(b, draw)
		for op := 0; op < 256; op += 16 {
			s := span.Do(uint8(op), a, b)
			for _, x := range xs {
				for _, y := range ys {
					if n, e := alu.Do(uint8(op), true, 0, x, y); e == api.OK && !span.Has(s, n) {
						t.Fatalf("Do(%d, %d, %d) = %d, and has not %d, made of %d and %d", op, a, b, s, n, x, y)
					}
				}
			}
		}
	})
}

// P5.4: the same of all numbers of small spans.
func TestAllThatArithmeticMakesIsInDo(t *testing.T) {
	eachSmallPair(func(a, b api.Span) {
		for op := 0; op < 256; op += 16 {
			s := span.Do(uint8(op), a, b)
			for _, x := range numbersOf(a) {
				for _, y := range numbersOf(b) {
					if n, e := alu.Do(uint8(op), true, 0, x, y); e == api.OK && !span.Has(s, n) {
						t.Fatalf("Do(%d, %d, %d) = %d, and has not %d, made of %d and %d", op, a, b, s, n, x, y)
					}
				}
			}
		}
	})
}

// P5.4: a number of a of which, with one of b, a condition holds is in If, signed ones too.
func TestWhereAConditionHoldsIsInIf(t *testing.T) {
	draw := rand.New(rand.NewPCG(5, 3))
	check := func(a, b api.Span, xs, ys []uint64) {
		for op := 0; op < 256; op += 16 {
			s, ok := span.If(uint8(op), a, b)
			for _, x := range xs {
				for _, y := range ys {
					if is, _ := cond.Is(uint8(op), true, x, y); is && (!ok || !span.Has(s, x)) {
						t.Fatalf("If(%d, %d, %d) = %d, %t, and has not %d, though it holds with %d", op, a, b, s, ok, x, y)
					}
				}
			}
		}
	}
	eachSmallPair(func(a, b api.Span) { check(a, b, numbersOf(a), numbersOf(b)) })
	eachGreatPair(func(a, b api.Span) {
		if draw.IntN(8) == 0 {
			check(a, b, someOf(a, draw), someOf(b, draw))
		}
	})
}
