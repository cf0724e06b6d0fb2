package tnum_test

import (
	"math"
	"math/rand/v2"
	"slices"
	"strings"
	"testing"

	"hackle/alu"
	"hackle/api"
	"hackle/tnum"
)

// The chapter's numbers of what arithmetic does, written out here once more.
const (
	add = 0
	sub = 16
	mul = 32
	or  = 64
	and = 80
	lsh = 96
	rsh = 112
	xor = 160
)

var ops = []uint8{add, sub, mul, or, and, lsh, rsh, xor}

// small is how many bits the Tnums have of which all numbers are gone through.
const small = 4

// none is what is answered where nothing is told.
var none = api.Tnum{}

// wrong are Tnums that are not right.
var wrong = []api.Tnum{
	{Value: 1, Mask: 1},
	{Value: 3, Mask: 1},
	{Value: 2, Mask: 3},
	{Value: 1 << 63, Mask: 1 << 63},
	{Value: 1 << 32, Mask: math.MaxUint64},
	{Value: math.MaxUint64, Mask: math.MaxUint64},
}

// digits is a Tnum's bits, the lowest first: '0', '1', or '?' of one that is not known.
type digits [64]byte

func digitsOf(t api.Tnum) digits {
	var d digits
	for i := range d {
		d[i] = '0' + byte(t.Value>>i&1)
		if t.Mask>>i&1 == 1 {
			d[i] = '?'
		}
	}
	return d
}

func (d digits) tnum() api.Tnum {
	var t api.Tnum
	for i, c := range d {
		switch c {
		case '1':
			t.Value += 1 << i
		case '?':
			t.Mask += 1 << i
		}
	}
	return t
}

// raised is d moved n places higher, or lower, if n is below 0.
func (d digits) raised(n int) digits {
	var r digits
	for i := range r {
		r[i] = '0'
		if j := i - n; j >= 0 && j < 64 {
			r[i] = d[j]
		}
	}
	return r
}

// read is the Tnum that a text's digits tell, the highest first.
func read(text string) api.Tnum {
	var d digits
	for i := range d {
		d[i] = '0'
	}
	for i := range len(text) {
		d[i] = text[len(text)-1-i]
	}
	return d.tnum()
}

// has tells whether n's bits are those that are known.
func has(t api.Tnum, n uint64) bool {
	for i, c := range digitsOf(t) {
		if c != '?' && c != '0'+byte(n>>i&1) {
			return false
		}
	}
	return true
}

// numbersOf is all numbers that may be t, of a t whose bits are few.
func numbersOf(t api.Tnum) []uint64 {
	var all []uint64
	for n := range uint64(1 << small) {
		if has(t, n) {
			all = append(all, n)
		}
	}
	return all
}

// least is the Tnum that tells the most and that all the numbers may be.
func least(numbers []uint64) api.Tnum {
	ones, zeros := uint64(math.MaxUint64), uint64(math.MaxUint64)
	for _, n := range numbers {
		ones &= n
		zeros &= ^n
	}
	return api.Tnum{Value: ones, Mask: ^ones & ^zeros}
}

// smallTnums is all right Tnums of few bits.
func smallTnums() []api.Tnum {
	var all []api.Tnum
	for v := range uint64(1 << small) {
		for m := range uint64(1 << small) {
			if v&m == 0 {
				all = append(all, api.Tnum{Value: v, Mask: m})
			}
		}
	}
	return all
}

// eachSmallPair calls f of all pairs of right Tnums of few bits.
func eachSmallPair(f func(a, b api.Tnum)) {
	all := smallTnums()
	for _, a := range all {
		for _, b := range all {
			f(a, b)
		}
	}
}

// greatTnums is right Tnums of which any bit may be known or not: some at the edges, some of mixed bits, always the same.
func greatTnums() []api.Tnum {
	const all = math.MaxUint64
	l := []api.Tnum{
		{}, {Value: 1}, {Mask: 1}, {Value: all}, {Mask: all}, {Value: 1, Mask: all - 1}, {Value: all - 1, Mask: 1},
		{Value: 1 << 63}, {Mask: 1 << 63}, {Value: 1<<63 - 1}, {Mask: 1<<63 - 1}, {Value: 1 << 63, Mask: 1<<63 - 1}, {Value: 1<<63 - 1, Mask: 1 << 63},
		{Value: 1 << 31}, {Mask: 1 << 32}, {Mask: 1<<32 - 1}, {Value: 1 << 32, Mask: 1<<32 - 1}, {Value: 0xaaaaaaaaaaaaaaaa, Mask: 0x5555555555555555},
	}
	draw := rand.New(rand.NewPCG(4, 1))
	for i := range 60 {
		v, m := draw.Uint64(), draw.Uint64()
		if i%3 == 1 { // few bits are not known
			m &= draw.Uint64() & draw.Uint64()
		}
		if i%3 == 2 { // few are
			m |= draw.Uint64() | draw.Uint64()
		}
		l = append(l, api.Tnum{Value: v &^ m, Mask: m})
	}
	return l
}

// eachGreatPair calls f of all pairs of great Tnums.
func eachGreatPair(f func(a, b api.Tnum)) {
	all := greatTnums()
	for _, a := range all {
		for _, b := range all {
			f(a, b)
		}
	}
}

// someOf is the least and the greatest number that may be t, and some between.
func someOf(t api.Tnum, draw *rand.Rand) []uint64 {
	l := []uint64{t.Value, t.Value | t.Mask}
	for range 6 {
		l = append(l, t.Value|t.Mask&draw.Uint64())
	}
	return l
}

// carried is what comes of a column: how many of three digits may be 1 at least and at most, and with that the digit and the carry.
func carried(p, q, c byte) (digit, carry byte) {
	low, high := 0, 0
	for _, x := range []byte{p, q, c} {
		if x == '1' {
			low++
		}
		if x != '0' {
			high++
		}
	}
	digit, carry = '?', '?'
	if low == high {
		digit = '0' + byte(low%2)
	}
	if low/2 == high/2 {
		carry = '0' + byte(low/2)
	}
	return digit, carry
}

// flipped is a digit of what is not.
func flipped(c byte) byte {
	switch c {
	case '0':
		return '1'
	case '1':
		return '0'
	}
	return '?'
}

// summed is p and q together, and a carry, column by column.
func summed(p, q digits, carry byte) digits {
	var d digits
	for i := range d {
		d[i], carry = carried(p[i], q[i], carry)
	}
	return d
}

// lessened is p less q: p, what q is not, and 1 together.
func lessened(p, q digits) digits {
	for i, c := range q {
		q[i] = flipped(c)
	}
	return summed(p, q, '1')
}

// timesed is p times q, as it's done by hand.
func timesed(p, q digits) digits {
	d := digitsOf(none)
	for i, c := range q {
		row := p.raised(i)
		if c == '0' {
			continue
		}
		if c == '?' {
			for j := range row {
				if row[j] == '1' {
					row[j] = '?'
				}
			}
		}
		d = summed(d, row, '0')
	}
	return d
}

// digitwise is what f makes of the digits at one place, place by place.
func digitwise(p, q digits, f func(x, y byte) byte) digits {
	var d digits
	for i := range d {
		d[i] = f(p[i], q[i])
	}
	return d
}

func bothDigits(x, y byte) byte {
	switch {
	case x == '0' || y == '0':
		return '0'
	case x == '1' && y == '1':
		return '1'
	}
	return '?'
}

func eitherDigit(x, y byte) byte { return flipped(bothDigits(flipped(x), flipped(y))) }

func unlikeDigits(x, y byte) byte {
	switch {
	case x == '?' || y == '?':
		return '?'
	case x == y:
		return '0'
	}
	return '1'
}

// worked is what the chapter says of Do, worked out digit by digit.
func worked(op uint8, a, b api.Tnum) (api.Tnum, bool) {
	p, q := digitsOf(a), digitsOf(b)
	switch op {
	case add:
		return summed(p, q, '0').tnum(), true
	case sub:
		return lessened(p, q).tnum(), true
	case mul:
		return timesed(p, q).tnum(), true
	case and:
		return digitwise(p, q, bothDigits).tnum(), true
	case or:
		return digitwise(p, q, eitherDigit).tnum(), true
	case xor:
		return digitwise(p, q, unlikeDigits).tnum(), true
	}
	if (op != lsh && op != rsh) || b.Mask != 0 || b.Value >= 64 {
		return none, false
	}
	places := int(b.Value)
	if op == rsh {
		places = -places
	}
	return p.raised(places).tnum(), true
}

// do is Do of an op of which something is told.
func do(t *testing.T, op uint8, a, b api.Tnum) api.Tnum {
	t.Helper()
	made, ok := tnum.Do(op, a, b)
	if !ok {
		t.Fatalf("Do(%d, %#x, %#x) = %#x, false; want true", op, a, b, made)
	}
	return made
}

// P4.1: a Tnum is right just if no bit is 1 in both.
func TestRight(t *testing.T) {
	for _, a := range append(greatTnums(), smallTnums()...) {
		if !tnum.Right(a) {
			t.Errorf("Right(%#x) = false", a)
		}
		for i := range 64 {
			one := uint64(1) << i
			if tnum.Right(api.Tnum{Value: a.Value | one, Mask: a.Mask | one}) {
				t.Errorf("Right(%#x) = true with the bit %d in both", a, i)
			}
		}
	}
	for _, w := range wrong {
		if tnum.Right(w) {
			t.Errorf("Right(%#x) = true", w)
		}
	}
}

// P4.1: all bits of a number are known, and no other number is it.
func TestOf(t *testing.T) {
	for _, n := range []uint64{0, 1, 2, 255, 1 << 31, 1<<32 - 1, 1 << 32, 1<<63 - 1, 1 << 63, math.MaxUint64, 0x0123456789abcdef} {
		of := tnum.Of(n)
		if of != (api.Tnum{Value: n, Mask: 0}) {
			t.Errorf("Of(%#x) = %#x", n, of)
		}
		if !tnum.Right(of) || !tnum.Has(of, n) {
			t.Errorf("Of(%#x) = %#x is not right, or has not the number", n, of)
		}
		for i := range 64 {
			if tnum.Has(of, n^1<<i) {
				t.Errorf("Of(%#x) has %#x", n, n^1<<i)
			}
		}
	}
}

// P4.1: a number may be a Tnum just if its known bits are the same.
func TestHas(t *testing.T) {
	for _, c := range []struct {
		text string
		n    uint64
		want bool
	}{
		{"0", 0, true},
		{"0", 1, false},
		{"1", 1, true},
		{"1", 0, false},
		{"?", 0, true},
		{"?", 1, true},
		{"?", 2, false},
		{"1?0", 4, true},
		{"1?0", 6, true},
		{"1?0", 5, false},
		{"1?0", 2, false},
		{"1?0", 12, false},
		{"1?0", 1<<63 + 4, false},
		{strings.Repeat("?", 64), math.MaxUint64, true},
		{strings.Repeat("?", 64), 0, true},
		{strings.Repeat("?", 63), 1 << 63, false},
		{"?" + strings.Repeat("0", 63), 1 << 63, true},
	} {
		if h := tnum.Has(read(c.text), c.n); h != c.want {
			t.Errorf("Has(%s, %#x) = %t", c.text, c.n, h)
		}
	}
	for _, a := range smallTnums() {
		for n := range uint64(1 << (small + 1)) {
			if h := tnum.Has(a, n); h != has(a, n) {
				t.Errorf("Has(%#x, %#x) = %t", a, n, h)
			}
		}
	}
}

// P4.1: each bit that is known is asked, and no other one.
func TestHasAsksEachKnownBit(t *testing.T) {
	draw := rand.New(rand.NewPCG(4, 2))
	for _, a := range greatTnums() {
		for _, n := range someOf(a, draw) {
			if !tnum.Has(a, n) {
				t.Errorf("Has(%#x, %#x) = false", a, n)
			}
			for i := range 64 {
				if h := tnum.Has(a, n^1<<i); h != (a.Mask>>i&1 == 1) {
					t.Errorf("Has(%#x, %#x) = %t", a, n^1<<i, h)
				}
			}
		}
	}
}

// P4.1: one is within another one just if all its numbers are the other one's.
func TestWithinOfSmall(t *testing.T) {
	eachSmallPair(func(a, b api.Tnum) {
		want := true
		for _, n := range numbersOf(a) {
			want = want && has(b, n)
		}
		if w := tnum.Within(a, b); w != want {
			t.Errorf("Within(%#x, %#x) = %t", a, b, w)
		}
	})
}

// P4.1: digit by digit, in all 64 bits.
func TestWithinOfGreat(t *testing.T) {
	within := func(a, b api.Tnum) bool {
		p, q := digitsOf(a), digitsOf(b)
		for i := range p {
			if q[i] != '?' && p[i] != q[i] {
				return false
			}
		}
		return true
	}
	eachGreatPair(func(a, b api.Tnum) {
		if w := tnum.Within(a, b); w != within(a, b) {
			t.Errorf("Within(%#x, %#x) = %t", a, b, w)
		}
	})
	for _, a := range greatTnums() {
		for i := range 64 {
			d := digitsOf(a)
			for _, c := range []byte("01?") {
				d[i] = c
				b := d.tnum()
				if w := tnum.Within(a, b); w != within(a, b) {
					t.Errorf("Within(%#x, %#x) = %t", a, b, w)
				}
				if w := tnum.Within(b, a); w != within(b, a) {
					t.Errorf("Within(%#x, %#x) = %t", b, a, w)
				}
			}
		}
	}
}

// P4.1: Join is the least that has the numbers of both.
func TestJoin(t *testing.T) {
	eachSmallPair(func(a, b api.Tnum) {
		want := least(append(numbersOf(a), numbersOf(b)...))
		if j := tnum.Join(a, b); j != want {
			t.Errorf("Join(%#x, %#x) = %#x; want %#x", a, b, j, want)
		}
	})
	eachGreatPair(func(a, b api.Tnum) {
		want := digitwise(digitsOf(a), digitsOf(b), func(x, y byte) byte {
			if x == y {
				return x
			}
			return '?'
		}).tnum()
		if j := tnum.Join(a, b); j != want {
			t.Errorf("Join(%#x, %#x) = %#x; want %#x", a, b, j, want)
		}
	})
}

// meet checks Meet of one pair, both ways about.
func meet(t *testing.T, a, b, want api.Tnum, may bool) {
	t.Helper()
	for range 2 {
		if m, ok := tnum.Meet(a, b); m != want || ok != may {
			t.Errorf("Meet(%#x, %#x) = %#x, %t; want %#x, %t", a, b, m, ok, want, may)
		}
		a, b = b, a
	}
}

// P4.1: Meet has the numbers that both have; if there is none, it is zero and false.
func TestMeet(t *testing.T) {
	meet(t, tnum.Of(1), tnum.Of(2), none, false)
	meet(t, tnum.Of(0), tnum.Of(0), none, true)
	meet(t, read("1?"), read("?1"), tnum.Of(3), true)
	meet(t, read("1??"), read("?0?"), read("10?"), true)
	eachSmallPair(func(a, b api.Tnum) {
		var both []uint64
		for _, n := range numbersOf(a) {
			if has(b, n) {
				both = append(both, n)
			}
		}
		if len(both) == 0 {
			meet(t, a, b, none, false)
		} else {
			meet(t, a, b, least(both), true)
		}
	})
}

// P4.1: Meet of two that are the same, but that each digit is one or the other one's.
func TestMeetOfEachDigit(t *testing.T) {
	for _, a := range greatTnums() {
		for i := range 64 {
			d := digitsOf(a)
			d[i] = '0'
			zero := d.tnum()
			d[i] = '1'
			one := d.tnum()
			d[i] = '?'
			open := d.tnum()
			meet(t, zero, one, none, false)
			meet(t, zero, open, zero, true)
			meet(t, one, open, one, true)
			meet(t, open, open, open, true)
		}
	}
}

// P4.1: all pairs of great ones, digit by digit.
func TestMeetOfGreat(t *testing.T) {
	draw := rand.New(rand.NewPCG(4, 3))
	for _, a := range greatTnums() {
		for _, m := range []uint64{0, 1, 1 << 63, math.MaxUint64, draw.Uint64(), draw.Uint64()} {
			n := someOf(a, draw)[2]
			b := api.Tnum{Value: n &^ m, Mask: m} // it has n, as a has
			want := digitwise(digitsOf(a), digitsOf(b), func(x, y byte) byte {
				if x == '?' {
					return y
				}
				return x
			}).tnum()
			meet(t, a, b, want, true)
		}
	}
}

// P4.1: the lowest bits stay, of each width from 1 to 63; of others all do.
func TestCut(t *testing.T) {
	for _, a := range greatTnums() {
		for width := 1; width <= 63; width++ {
			d := digitsOf(a)
			for i := width; i < 64; i++ {
				d[i] = '0'
			}
			if c := tnum.Cut(a, width); c != d.tnum() {
				t.Errorf("Cut(%#x, %d) = %#x; want %#x", a, width, c, d.tnum())
			}
		}
		for _, width := range []int{0, -1, -8, -32, -63, -64, 64, 65, 96, 127, 128, 1 << 32, 1<<32 + 8, math.MinInt, math.MinInt + 8, math.MaxInt} {
			if c := tnum.Cut(a, width); c != a {
				t.Errorf("Cut(%#x, %d) = %#x; want it as it is", a, width, c)
			}
		}
	}
	if c := tnum.Cut(api.Tnum{Value: 0x1234, Mask: 0xedcb}, 8); c != (api.Tnum{Value: 0x34, Mask: 0xcb}) {
		t.Errorf("Cut to 8: %#x", c)
	}
}

// P4.1, P4.2: of what is not right zero and false are told.
func TestWrongTnumsTellNothing(t *testing.T) {
	for _, w := range wrong {
		for _, n := range []uint64{0, w.Value, w.Mask, w.Value &^ w.Mask, w.Value | w.Mask} {
			if tnum.Has(w, n) {
				t.Errorf("Has(%#x, %#x) = true", w, n)
			}
		}
		for _, width := range []int{-1, 0, 1, 8, 32, 63, 64, 65} {
			if c := tnum.Cut(w, width); c != none {
				t.Errorf("Cut(%#x, %d) = %#x; want zero", w, width, c)
			}
		}
		wrongPair(t, w, w)
		for _, a := range greatTnums() {
			wrongPair(t, w, a)
			wrongPair(t, a, w)
		}
		for _, other := range wrong {
			wrongPair(t, w, other)
		}
	}
}

// wrongPair checks that nothing is told of a and b, one of which is not right.
func wrongPair(t *testing.T, a, b api.Tnum) {
	t.Helper()
	if tnum.Within(a, b) {
		t.Errorf("Within(%#x, %#x) = true", a, b)
	}
	if j := tnum.Join(a, b); j != none {
		t.Errorf("Join(%#x, %#x) = %#x; want zero", a, b, j)
	}
	if m, ok := tnum.Meet(a, b); m != none || ok {
		t.Errorf("Meet(%#x, %#x) = %#x, %t; want zero, false", a, b, m, ok)
	}
	for op := range 256 {
		if d, ok := tnum.Do(uint8(op), a, b); d != none || ok {
			t.Errorf("Do(%d, %#x, %#x) = %#x, %t; want zero, false", op, a, b, d, ok)
		}
	}
}

// P4.2: what the chapter says, of digits worked out by hand.
func TestDoByHand(t *testing.T) {
	all, high := strings.Repeat("?", 64), strings.Repeat("1", 64)
	for _, c := range []struct {
		op         uint8
		a, b, want string
	}{
		{add, "1", "?0", "?1"},
		{add, "1", "?", "??"},
		{add, "0", "?", "?"},
		{add, "?", "?", "??"},
		{add, "101", "11", "1000"},
		{add, "10?", "1", "1??"},
		{add, "1?0", "10", "???0"},
		{add, "?00?", "1", "?0??"},
		{add, high, "1", "0"},
		{add, high, "?", all},
		{add, all, "0", all},
		{add, "1" + strings.Repeat("0", 63), "?" + strings.Repeat("0", 63), "?" + strings.Repeat("0", 63)},

		{sub, "11", "1", "10"},
		{sub, "0", "1", high},
		{sub, "0", "?", all},
		{sub, "1", "?", "?"},
		{sub, "?", "?", all},
		{sub, "?1", "1", "?0"},
		{sub, "1?", "1", "??"},
		{sub, "1000?", "1", "?????"},
		{sub, "1001?", "1", "100??"},
		{sub, "0", "?00", strings.Repeat("?", 62) + "00"},

		{and, "??", "1", "?"},
		{and, "1", "??", "?"},
		{and, "01?", "010", "010"},
		{and, "000111???", "01?01?01?", "00001?0??"},
		{and, all, "0", "0"},
		{and, all, high, all},

		{or, "??", "1", "?1"},
		{or, "000111???", "01?01?01?", "01?111?1?"},
		{or, all, high, high},
		{or, all, "0", all},

		{xor, "??", "1", "??"},
		{xor, "000111???", "01?01?01?", "01?10????"},
		{xor, "1?1", "1?1", "?0"},
		{xor, high, high, "0"},

		{mul, "11", "101", "1111"},
		{mul, "11", "0", "0"},
		{mul, "11", "?", "??"},
		{mul, "?", "11", "??"},
		{mul, "11", "?0", "??0"},
		{mul, "1?", "1", "1?"},
		{mul, "1", "1?", "1?"},
		{mul, "10", "1?", "1?0"},
		{mul, "1?", "10", "1?0"},
		{mul, "11", "1?", "????"},
		{mul, "1?", "11", "????"},
		{mul, "11", "??", "????"},
		{mul, "?0", "?0", "?00"},
		{mul, high, high, "1"},
		{mul, high, "1" + strings.Repeat("0", 63), "1" + strings.Repeat("0", 63)},
		{mul, high, "?" + strings.Repeat("0", 63), "?" + strings.Repeat("0", 63)},

		{lsh, "1?", "0", "1?"},
		{lsh, "1?", "1", "1?0"},
		{lsh, "10?", "111111", "?" + strings.Repeat("0", 63)},
		{rsh, "1?01", "10", "1?"},
		{rsh, "1?01", "0", "1?01"},
		{rsh, all, "111111", "?"},
		{rsh, "10" + strings.Repeat("?", 62), "111110", "10"},
	} {
		a, b, want := read(c.a), read(c.b), read(c.want)
		if made := do(t, c.op, a, b); made != want {
			t.Errorf("Do(%d, %s, %s) = %#x; want %s", c.op, c.a, c.b, made, c.want)
		}
		if w, ok := worked(c.op, a, b); w != want || !ok {
			t.Errorf("worked(%d, %s, %s) = %#x, %t; want %s", c.op, c.a, c.b, w, ok, c.want)
		}
	}
}

// P4.2: the chapter's examples.
func TestExamples(t *testing.T) {
	if made := do(t, add, tnum.Of(1), api.Tnum{Value: 0, Mask: 2}); made != (api.Tnum{Value: 1, Mask: 2}) {
		t.Errorf("Add: %#x", made)
	}
	if made := do(t, and, api.Tnum{Value: 0, Mask: 3}, tnum.Of(1)); made != (api.Tnum{Value: 0, Mask: 1}) {
		t.Errorf("And: %#x", made)
	}
	meet(t, tnum.Of(1), tnum.Of(2), none, false)
}

// check checks Do against what is worked out digit by digit.
func check(t *testing.T, op uint8, a, b api.Tnum) {
	t.Helper()
	made, ok := tnum.Do(op, a, b)
	if want, may := worked(op, a, b); made != want || ok != may {
		t.Errorf("Do(%d, %#x, %#x) = %#x, %t; want %#x, %t", op, a, b, made, ok, want, may)
	}
}

// P4.2: all pairs of few bits.
func TestDoOfSmall(t *testing.T) {
	eachSmallPair(func(a, b api.Tnum) {
		for _, op := range ops {
			check(t, op, a, b)
		}
	})
}

// P4.2: pairs of all 64 bits.
func TestDoOfGreat(t *testing.T) {
	eachGreatPair(func(a, b api.Tnum) {
		for _, op := range ops {
			check(t, op, a, b)
		}
	})
}

// P4.2: of a single bit of the second one, known or not, at each place.
func TestDoOfEachBit(t *testing.T) {
	for _, a := range greatTnums() {
		for i := range 64 {
			one := uint64(1) << i
			for _, op := range ops {
				check(t, op, a, api.Tnum{Value: one})
				check(t, op, a, api.Tnum{Mask: one})
				check(t, op, api.Tnum{Value: one}, a)
				check(t, op, api.Tnum{Mask: one}, a)
			}
		}
	}
}

// P4.2: of all but Mul and what moves, nothing less may be told: what is not known there may be 0 and may be 1.
func TestDoTellsAllThatIsKnown(t *testing.T) {
	eachSmallPair(func(a, b api.Tnum) {
		for _, op := range []uint8{add, sub, and, or, xor} {
			var all []uint64
			for _, x := range numbersOf(a) {
				for _, y := range numbersOf(b) {
					n, _ := alu.Do(op, true, 0, x, y)
					all = append(all, n)
				}
			}
			if made := do(t, op, a, b); made != least(all) {
				t.Errorf("Do(%d, %#x, %#x) = %#x; want %#x", op, a, b, made, least(all))
			}
		}
	})
}

// P4.2: what is moved is moved by each number of places below 64 that is known.
func TestDoMoves(t *testing.T) {
	for _, a := range greatTnums() {
		for n := range uint64(64) {
			left, right := do(t, lsh, a, tnum.Of(n)), do(t, rsh, a, tnum.Of(n))
			if left != digitsOf(a).raised(int(n)).tnum() {
				t.Errorf("Lsh of %#x by %d: %#x", a, n, left)
			}
			if right != digitsOf(a).raised(-int(n)).tnum() {
				t.Errorf("Rsh of %#x by %d: %#x", a, n, right)
			}
		}
	}
}

// P4.2: moved by so many places that there are none, or by a number that is not known, nothing is told.
func TestDoRefusesOtherPlaces(t *testing.T) {
	others := []api.Tnum{
		{Value: 64}, {Value: 65}, {Value: 127}, {Value: 128}, {Value: 1 << 8}, {Value: 1 << 32}, {Value: 1<<32 + 1}, {Value: 1 << 63}, {Value: math.MaxUint64},
		{Mask: 1}, {Mask: 32}, {Mask: 63}, {Mask: 64}, {Mask: 1 << 32}, {Mask: 1 << 63}, {Mask: math.MaxUint64},
		{Value: 1, Mask: 2}, {Value: 62, Mask: 1}, {Value: 1, Mask: 1 << 63}, {Value: 64, Mask: 1},
	}
	for _, op := range []uint8{lsh, rsh} {
		for _, b := range others {
			for _, a := range greatTnums() {
				if made, ok := tnum.Do(op, a, b); made != none || ok {
					t.Errorf("Do(%d, %#x, %#x) = %#x, %t; want zero, false", op, a, b, made, ok)
				}
			}
		}
	}
}

// P4.2: of other ops, those of arithmetic that the chapter does not name among them, nothing is told.
func TestDoRefusesOtherOps(t *testing.T) {
	for op := range 256 {
		if slices.Contains(ops, uint8(op)) {
			continue
		}
		for _, a := range greatTnums() {
			for _, b := range []api.Tnum{none, tnum.Of(1), tnum.Of(7), {Mask: 1}, {Mask: math.MaxUint64}} {
				if made, ok := tnum.Do(uint8(op), a, b); made != none || ok {
					t.Errorf("Do(%d, %#x, %#x) = %#x, %t; want zero, false", op, a, b, made, ok)
				}
			}
		}
	}
}

// may checks that what arithmetic makes of x and y may be what Do makes of a and b.
func may(t *testing.T, op uint8, a, b api.Tnum, x, y uint64) {
	t.Helper()
	made, ok := tnum.Do(op, a, b)
	if !ok {
		return
	}
	n, e := alu.Do(op, true, 0, x, y)
	if e != api.OK || !tnum.Right(made) || !tnum.Has(made, n) || !has(made, n) {
		t.Errorf("Do(%d, %#x, %#x) = %#x has not %#x, which comes of %#x and %#x", op, a, b, made, n, x, y)
	}
}

// P4.3: all numbers of few bits.
func TestNumbersStayOfSmall(t *testing.T) {
	eachSmallPair(func(a, b api.Tnum) {
		for _, x := range numbersOf(a) {
			for _, y := range numbersOf(b) {
				for _, op := range ops {
					may(t, op, a, b, x, y)
				}
			}
		}
	})
}

// P4.3: some numbers of all 64 bits.
func TestNumbersStayOfGreat(t *testing.T) {
	draw := rand.New(rand.NewPCG(4, 4))
	eachGreatPair(func(a, b api.Tnum) {
		for _, x := range someOf(a, draw) {
			for _, y := range someOf(b, draw) {
				for _, op := range ops {
					may(t, op, a, b, x, y)
				}
			}
		}
	})
	for _, a := range greatTnums() {
		for _, x := range someOf(a, draw) {
			for n := range uint64(64) {
				may(t, lsh, a, tnum.Of(n), x, n)
				may(t, rsh, a, tnum.Of(n), x, n)
			}
		}
	}
}

// P4.3: of numbers that are known just what arithmetic makes is told.
func TestKnownNumbersMakeKnownNumbers(t *testing.T) {
	draw := rand.New(rand.NewPCG(4, 5))
	numbers := []uint64{0, 1, 2, 3, 31, 63, 1 << 31, 1<<32 - 1, 1 << 32, 1<<63 - 1, 1 << 63, math.MaxUint64 - 1, math.MaxUint64}
	for range 20 {
		numbers = append(numbers, draw.Uint64())
	}
	for _, x := range numbers {
		for _, y := range numbers {
			for _, op := range ops {
				made, ok := tnum.Do(op, tnum.Of(x), tnum.Of(y))
				moves := op == lsh || op == rsh
				if ok != (!moves || y < 64) {
					t.Errorf("Do(%d, Of(%#x), Of(%#x)) = %#x, %t", op, x, y, made, ok)
				}
				n, _ := alu.Do(op, true, 0, x, y)
				if ok && made != tnum.Of(n) {
					t.Errorf("Do(%d, Of(%#x), Of(%#x)) = %#x; want Of(%#x)", op, x, y, made, n)
				}
			}
		}
	}
}
