package help_test

import (
	"bytes"
	"math"
	"math/big"
	"math/rand/v2"
	"slices"
	"testing"

	"hackle/api"
	"hackle/help"
)

// What helpers are told, and tell, by the numbers that api gives these words.
const (
	aTable = 1
	aKey   = 2
	aVal   = 3
	aNum   = 4

	tellsNum   = 1
	tellsMaybe = 2
)

// row is a row of the chapter's table, written out here once more.
type row struct {
	id    int
	told  []uint8
	tells uint8
	draws bool
	most  string
}

func rows() []row {
	return []row{
		{1, []uint8{aTable, aKey}, tellsMaybe, false, "0"},
		{2, []uint8{aTable, aKey, aVal, aNum}, tellsNum, false, "18446744073709551615"},
		{3, []uint8{aTable, aKey}, tellsNum, false, "18446744073709551615"},
		{5, nil, tellsNum, true, "18446744073709551615"},
		{6, []uint8{aNum, aNum}, tellsNum, false, "0"},
		{7, nil, tellsNum, true, "4294967295"},
		{8, nil, tellsNum, true, "63"},
	}
}

// isHelper tells whether the chapter's table has a row of that number.
func isHelper(id int) bool {
	return slices.ContainsFunc(rows(), func(r row) bool { return r.id == id })
}

// mostOf is Most, as a number of any size.
func (r row) mostOf() *big.Int {
	n, _ := new(big.Int).SetString(r.most, 10)
	return n
}

// cut is n modulo Most and 1, worked out with numbers of any size.
func (r row) cut(n uint64) uint64 {
	by := new(big.Int).Add(r.mostOf(), big.NewInt(1))
	return new(big.Int).Mod(new(big.Int).SetUint64(n), by).Uint64()
}

// drawing is the rows of helpers that draw.
func drawing() []row {
	return slices.DeleteFunc(rows(), func(r row) bool { return !r.draws })
}

// strangers are numbers of no helper: near those that are one, at the ends of all kinds of numbers, and such as are one by their lowest bits alone.
func strangers() []int {
	l := []int{math.MinInt, math.MinInt + 1, math.MinInt32 - 1, math.MinInt32, math.MinInt32 + 1, math.MaxInt32 - 1, math.MaxInt32, math.MaxInt32 + 1, math.MaxUint32, math.MaxUint32 + 1, math.MaxInt - 1, math.MaxInt}
	for id := -2000; id <= 2000; id++ {
		l = append(l, id)
	}
	for _, r := range rows() {
		l = append(l, -r.id, ^r.id)
		for bit := 3; bit < 64; bit++ {
			l = append(l, r.id^1<<bit)
		}
	}
	return slices.DeleteFunc(l, isHelper)
}

// drawable are numbers at which a remainder may be worked out wrongly.
func drawable() []uint64 {
	var l []uint64
	for bit := range 64 {
		for by := range uint64(4) {
			l = append(l, 1<<bit-by, 1<<bit+by)
		}
	}
	for n := range uint64(300) {
		l = append(l, n, math.MaxUint64-n)
	}
	return append(l, 0x0123456789abcdef, 0xfedcba9876543210, 0xaaaaaaaaaaaaaaaa, 0x5555555555555555)
}

// sames asks Sig of a row.
func sames(t *testing.T, r row) {
	t.Helper()
	s, ok := help.Sig(r.id)
	if !ok || !bytes.Equal(s.Told, r.told) || s.Tells != r.tells || s.Draws != r.draws || s.Most != r.mostOf().Uint64() {
		t.Errorf("Sig(%d) = %v, %t; want %v, true", r.id, s, ok, r)
	}
}

// draws asks what Draw tells, and whether its list stays.
func draws(t *testing.T, id int, l []uint64, want uint64, rest []uint64, e api.Errno) {
	t.Helper()
	was := slices.Clone(l)
	n, left, got := help.Draw(id, l)
	if n != want || !slices.Equal(left, rest) || got != e {
		t.Errorf("Draw(%d, %v) = %d, %v, %d; want %d, %v, %d", id, l, n, left, got, want, rest, e)
	}
	if !slices.Equal(l, was) {
		t.Errorf("Draw(%d, %v) made %v of the list", id, was, l)
	}
}

// rights asks what Right tells, and whether what it is told stays.
func rights(t *testing.T, id int, told []uint8, want bool) {
	t.Helper()
	was := bytes.Clone(told)
	if got := help.Right(id, told); got != want {
		t.Errorf("Right(%d, %v) = %t; want %t", id, told, got, want)
	}
	if !bytes.Equal(told, was) {
		t.Errorf("Right(%d, %v) made %v of the list", id, was, told)
	}
}

// spoil puts n all over a list, and over the room behind its length.
func spoil[T any](l []T, n T) {
	l = l[:cap(l)]
	for i := range l {
		l[i] = n
	}
}

// P10.2: the chapter's examples.
func TestExamples(t *testing.T) {
	draws(t, 8, []uint64{130, 5}, 2, []uint64{5}, api.OK)
	draws(t, 1, []uint64{130, 5}, 0, nil, api.ErrArg)
}

// P10.1: of each number of the table its row.
func TestSig(t *testing.T) {
	for _, r := range rows() {
		sames(t, r)
		sames(t, r)
	}
}

// P10.1: of other numbers zero and false.
func TestSigOfNone(t *testing.T) {
	for _, id := range strangers() {
		if s, ok := help.Sig(id); ok || len(s.Told) > 0 || s.Tells != 0 || s.Draws || s.Most != 0 {
			t.Errorf("Sig(%d) = %v, %t; want zero, false", id, s, ok)
		}
	}
}

// P10.1: what is answered is the caller's, with the room behind it: no other answer hangs on it.
func TestSigIsTheCallers(t *testing.T) {
	for _, r := range rows() {
		a, _ := help.Sig(r.id)
		b, _ := help.Sig(r.id)
		spoil(a.Told, 90)
		if !bytes.Equal(b.Told, r.told) {
			t.Errorf("Sig(%d) of two calls shares its Told: %v", r.id, b.Told)
		}
		for _, other := range rows() {
			sames(t, other)
			rights(t, other.id, other.told, true)
		}
	}
}

// P10.2: ErrArg of numbers of no helper, whatever the list is: also ahead of ErrDry.
func TestDrawOfNone(t *testing.T) {
	for _, id := range strangers() {
		draws(t, id, []uint64{1, 2, 3}, 0, nil, api.ErrArg)
		draws(t, id, nil, 0, nil, api.ErrArg)
		draws(t, id, []uint64{}, 0, nil, api.ErrArg)
	}
}

// P10.2: ErrArg of helpers that do not draw, whatever the list is: also ahead of ErrDry.
func TestDrawOfOthers(t *testing.T) {
	for _, id := range []int{1, 2, 3, 6} {
		draws(t, id, []uint64{1, 2, 3}, 0, nil, api.ErrArg)
		draws(t, id, []uint64{0}, 0, nil, api.ErrArg)
		draws(t, id, nil, 0, nil, api.ErrArg)
		draws(t, id, []uint64{}, 0, nil, api.ErrArg)
	}
}

// P10.2: ErrDry of those that draw, if the list has nothing; what is behind its length is not of it.
func TestDrawOfNothing(t *testing.T) {
	room := []uint64{7, 8, 9}
	for _, id := range []int{5, 7, 8} {
		draws(t, id, nil, 0, nil, api.ErrDry)
		draws(t, id, []uint64{}, 0, nil, api.ErrDry)
		draws(t, id, room[:0], 0, nil, api.ErrDry)
	}
	if !slices.Equal(room, []uint64{7, 8, 9}) {
		t.Errorf("the room behind an empty list became %v", room)
	}
}

// P10.2: the first of the list, as far as a helper tells, by hand.
func TestDrawByHand(t *testing.T) {
	for _, c := range []struct {
		id      int
		n, want uint64
	}{
		{5, 0, 0}, {5, 1, 1}, {5, 1 << 32, 1 << 32}, {5, 1 << 63, 1 << 63}, {5, math.MaxUint64 - 1, math.MaxUint64 - 1}, {5, math.MaxUint64, math.MaxUint64},
		{7, 0, 0}, {7, 1<<32 - 2, 1<<32 - 2}, {7, 1<<32 - 1, 1<<32 - 1}, {7, 1 << 32, 0}, {7, 1<<32 + 1, 1}, {7, 1 << 33, 0}, {7, 0x0123456789abcdef, 0x89abcdef}, {7, math.MaxUint64, math.MaxUint32},
		{8, 0, 0}, {8, 62, 62}, {8, 63, 63}, {8, 64, 0}, {8, 65, 1}, {8, 127, 63}, {8, 128, 0}, {8, 1 << 63, 0}, {8, 1<<32 + 5, 5}, {8, math.MaxUint64, 63},
	} {
		draws(t, c.id, []uint64{c.n}, c.want, nil, api.OK)
		draws(t, c.id, []uint64{c.n, c.n, 0, math.MaxUint64}, c.want, []uint64{c.n, 0, math.MaxUint64}, api.OK)
	}
}

// P10.2, P10.3: the first of the list, modulo Most and 1, and not more than Most.
func TestDrawOfEdges(t *testing.T) {
	for _, r := range drawing() {
		for _, n := range drawable() {
			draws(t, r.id, []uint64{n, 11}, r.cut(n), []uint64{11}, api.OK)
			if got, _, _ := help.Draw(r.id, []uint64{n}); new(big.Int).SetUint64(got).Cmp(r.mostOf()) > 0 {
				t.Errorf("Draw(%d, [%d]) = %d; want at most %s", r.id, n, got, r.most)
			}
		}
	}
}

// P10.2: what is left is the caller's: it shares no memory with the list, nor with another answer, and the room behind both stays.
func TestDrawIsTheCallers(t *testing.T) {
	for _, id := range []int{5, 7, 8} {
		for length := 1; length <= 5; length++ {
			all := []uint64{10, 20, 30, 40, 50, 60, 61, 62}
			l := all[:length]
			_, a, _ := help.Draw(id, l)
			_, b, _ := help.Draw(id, l)
			spoil(a, 70)
			spoil(b[len(b):], 71)
			if !slices.Equal(all, []uint64{10, 20, 30, 40, 50, 60, 61, 62}) {
				t.Errorf("what Draw(%d) left of %d numbers shares the list's memory: %v", id, length, all)
			}
			if want := []uint64{20, 30, 40, 50}[:length-1]; !slices.Equal(b, want) {
				t.Errorf("what Draw(%d) left of %d numbers shares another answer's memory: %v", id, length, b)
			}
			spoil(all, 99)
			if slices.Contains(b, 99) {
				t.Errorf("what Draw(%d) left of %d numbers changed with the list: %v", id, length, b)
			}
		}
	}
}

// P10.2: Right of each helper's Told, of that with anything behind it, and of that with less, or with something else in a place.
func TestRight(t *testing.T) {
	for _, r := range rows() {
		rights(t, r.id, r.told, true)
		for more := range 256 {
			rights(t, r.id, append(bytes.Clone(r.told), uint8(more)), true)
			rights(t, r.id, append(bytes.Clone(r.told), uint8(more), 0, 200, 1, 2), true)
			rights(t, r.id, append([]uint8{uint8(more)}, r.told...), bytes.HasPrefix(append([]uint8{uint8(more)}, r.told...), r.told))
		}
		for i := range r.told {
			rights(t, r.id, r.told[:i], false)
			for other := range 256 {
				told := append(bytes.Clone(r.told), 4, 4)
				told[i] = uint8(other)
				rights(t, r.id, told, other == int(r.told[i]))
			}
		}
	}
}

// P10.2: Right by hand; a helper that is told nothing may be told anything.
func TestRightByHand(t *testing.T) {
	for _, c := range []struct {
		id   int
		told []uint8
		want bool
	}{
		{1, nil, false}, {1, []uint8{aTable}, false}, {1, []uint8{aTable, aKey}, true}, {1, []uint8{aKey, aTable}, false}, {1, []uint8{aTable, aVal}, false}, {1, []uint8{0, aTable, aKey}, false}, {1, []uint8{aTable, 0, aKey}, false}, {1, []uint8{aTable, aKey, aKey}, true}, {1, []uint8{0, 0}, false},
		{2, nil, false}, {2, []uint8{aTable, aKey}, false}, {2, []uint8{aTable, aKey, aVal}, false}, {2, []uint8{aTable, aKey, aVal, aNum}, true}, {2, []uint8{aTable, aKey, aVal, aNum, aNum}, true}, {2, []uint8{aTable, aVal, aKey, aNum}, false}, {2, []uint8{aNum, aVal, aKey, aTable}, false},
		{3, nil, false}, {3, []uint8{aKey}, false}, {3, []uint8{aTable}, false}, {3, []uint8{aTable, aKey}, true}, {3, []uint8{aTable, aKey, aVal, aNum}, true},
		{5, nil, true}, {5, []uint8{}, true}, {5, []uint8{0}, true}, {5, []uint8{aTable, aKey}, true}, {5, []uint8{255, 255}, true},
		{6, nil, false}, {6, []uint8{aNum}, false}, {6, []uint8{aNum, aNum}, true}, {6, []uint8{aNum, aNum, aTable}, true}, {6, []uint8{aNum, aTable}, false}, {6, []uint8{aTable, aNum, aNum}, false},
		{7, nil, true}, {7, []uint8{}, true}, {7, []uint8{aNum}, true}, {8, nil, true}, {8, []uint8{}, true}, {8, []uint8{5, 6, 7}, true},
	} {
		rights(t, c.id, c.told, c.want)
	}
}

// P10.2: what is behind the length of what is told is not read, and stays.
func TestRightReadsItsListAlone(t *testing.T) {
	room := []uint8{aTable, aKey, aVal, aNum, 9}
	for _, id := range []int{1, 2, 3} {
		for length := range 5 {
			rights(t, id, room[:length], length == 4 || length >= 2 && id != 2)
		}
	}
	if !bytes.Equal(room, []uint8{aTable, aKey, aVal, aNum, 9}) {
		t.Errorf("the room behind what is told became %v", room)
	}
}

// P10.2: Right is false of numbers of no helper, whatever is told.
func TestRightOfNone(t *testing.T) {
	for _, id := range strangers() {
		rights(t, id, nil, false)
		rights(t, id, []uint8{}, false)
		for _, r := range rows() {
			rights(t, id, r.told, false)
		}
	}
}

// P10.3: what is drawn one behind the other is the list, as far as each helper tells of it, till nothing is left.
func TestDrawTheWholeList(t *testing.T) {
	r := rand.New(rand.NewPCG(10, 3))
	helpers := drawing()
	for range 200 {
		list := make([]uint64, r.IntN(40))
		for i := range list {
			list[i] = r.Uint64() >> r.IntN(64)
		}
		left := slices.Clone(list)
		for i, n := range list {
			h := helpers[r.IntN(len(helpers))]
			got, rest, e := help.Draw(h.id, left)
			if e != api.OK || got != h.cut(n) || !slices.Equal(rest, list[i+1:]) {
				t.Fatalf("of %v draw %d, by %d: %d, %v, %d; want %d and the others", list, i, h.id, got, rest, e, h.cut(n))
			}
			left = rest
		}
		draws(t, helpers[r.IntN(len(helpers))].id, left, 0, nil, api.ErrDry)
	}
}

// P10.3: drawn by time alone it is the list itself.
func TestDrawTheListItself(t *testing.T) {
	var got []uint64
	left := drawable()
	for len(left) > 0 {
		n, rest, e := help.Draw(5, left)
		if e != api.OK || len(rest) != len(left)-1 {
			t.Fatalf("Draw(5, %v) = %d, %v, %d", left, n, rest, e)
		}
		got, left = append(got, n), rest
	}
	if !slices.Equal(got, drawable()) {
		t.Errorf("drawn one behind the other: %v; want %v", got, drawable())
	}
}
