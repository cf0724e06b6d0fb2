package machine_test

import (
	"math"
	"slices"
	"testing"

	"hackle/api"
	"hackle/machine"
)

// P11.3: Run's fuel is of all steps since New; it ends where it is out of it, and goes on from there.
func TestRunFuel(t *testing.T) {
	l := prog(mov(0, 1), mov(0, 2), mov(0, 3), exit())
	for fuel := -3; fuel < 8; fuel++ {
		want := api.End{Code: api.ErrFuel, At: max(0, fuel), Steps: max(0, fuel)}
		if fuel > 3 {
			want = api.End{R0: 3, At: 3, Steps: 4}
		}
		m := made(t, api.Env{}, l)
		for range 3 {
			if got := m.Run(fuel); !sameEnd(got, want) || m.Over() != (fuel > 3) || m.At() != want.At {
				t.Errorf("Run(%d) = %v, at %d, over %t; want %v", fuel, got, m.At(), m.Over(), want)
			}
		}
		for _, less := range []int{math.MinInt, -1, 0, fuel - 1} {
			if got := m.Run(less); !sameEnd(got, want) {
				t.Errorf("Run(%d) behind Run(%d) = %v; want %v", less, fuel, got, want)
			}
		}
		if got := m.Run(math.MaxInt); !sameEnd(got, api.End{R0: 3, At: 3, Steps: 4}) {
			t.Errorf("Run behind Run(%d) = %v", fuel, got)
		}
	}
	ends(t, api.Env{}, api.End{Code: api.ErrFuel, Steps: 5000}, []api.Insn{{Op: 5, Off: -1}})
}

// P11.3: steps that were told by Step are of the fuel, too; an error is told ahead of what is out of fuel.
func TestRunBehindSteps(t *testing.T) {
	m := made(t, api.Env{}, mov(0, 1), mov(0, 2), []api.Insn{{Op: 15, Dst: 0, Src: 9}}, exit())
	steps(t, m, api.OK, 1, false)
	steps(t, m, api.OK, 2, false)
	if got := m.Run(2); !sameEnd(got, api.End{Code: api.ErrFuel, At: 2, Steps: 2}) {
		t.Errorf("Run(2) behind two steps = %v", got)
	}
	for _, fuel := range []int{3, 2, 0, math.MinInt, math.MaxInt} {
		if got := m.Run(fuel); !sameEnd(got, api.End{Code: api.ErrUnset, At: 2, Steps: 2}) {
			t.Errorf("Run(%d) of an error = %v", fuel, got)
		}
	}
	steps(t, m, api.ErrOver, 2, true)
	if got := m.Run(9); !sameEnd(got, api.End{Code: api.ErrUnset, At: 2, Steps: 2}) {
		t.Errorf("Run behind ErrOver = %v", got)
	}
}

// P11.3: what was told, and what is in the maps, also where a program is not at its end, or ended with an error.
func TestRunTellsCallsAndMaps(t *testing.T) {
	e := api.Env{Defs: []api.Def{hash(1, 8, 1), numbered(8, 1)}, Draws: []uint64{9, 8}}
	l := prog(call(5), call(7), mov(1, 1), mov(2, 2), call(6), holding(8, 4), word(1, 0), at(2, 8), at(3, 8), mov(4, 0), call(2), call(8), exit())
	zero := []api.Item{{Key: fill(4, 0), Val: fill(8, 0)}}
	m := made(t, e, l)
	told := []api.Called{{Id: 5, Ret: 9}, {Id: 7, Ret: 8}, {Id: 6, N: []uint64{1, 2}}, {Id: 2, Key: []byte{4}, Val: []byte{4, 0, 0, 0, 0, 0, 0, 0}, N: []uint64{0}}}
	for _, c := range []struct {
		fuel int
		want api.End
	}{
		{0, api.End{Code: api.ErrFuel, Maps: [][]api.Item{nil, zero}}},
		{1, api.End{Code: api.ErrFuel, At: 1, Steps: 1, Calls: told[:1], Maps: [][]api.Item{nil, zero}}},
		{5, api.End{Code: api.ErrFuel, At: 5, Steps: 5, Calls: told[:3], Maps: [][]api.Item{nil, zero}}},
		{14, api.End{Code: api.ErrDry, At: 16, Steps: 14, Calls: told, Maps: [][]api.Item{{{Key: []byte{4}, Val: []byte{4, 0, 0, 0, 0, 0, 0, 0}}}, zero}}},
	} {
		got := m.Run(c.fuel)
		if c.want.Code == api.ErrDry {
			got = m.Run(c.fuel + 1)
		}
		if !sameEnd(got, c.want) {
			t.Errorf("Run(%d) = %v; want %v", c.fuel, got, c.want)
		}
	}
}

// A nil Machine, and one that New did not make, do nothing.
func TestNoMachine(t *testing.T) {
	for _, m := range []*machine.Machine{nil, {}} {
		for range 2 {
			if e := m.Step(); e != api.ErrNone {
				t.Errorf("Step = %d; want ErrNone", e)
			}
			for _, fuel := range []int{math.MinInt, -1, 0, 1, math.MaxInt} {
				if end := m.Run(fuel); !sameEnd(end, api.End{Code: api.ErrNone}) {
					t.Errorf("Run(%d) = %v; want ErrNone", fuel, end)
				}
			}
			for _, i := range []int{math.MinInt, -1, 0, 1, 10, 11, math.MaxInt} {
				has(t, m, i, 0, false)
			}
			if m.At() != 0 || m.Over() {
				t.Errorf("At %d, Over %t; want 0, false", m.At(), m.Over())
			}
		}
	}
}

// spoil puts n all over a list, and over the room behind its length.
func spoil[T any](l []T, n T) {
	l = l[:cap(l)]
	for i := range l {
		l[i] = n
	}
}

// busy is a program that calls all helpers, and what it is given, with room behind each list.
func busy() ([]api.Insn, api.Env) {
	l := prog(
		holding(8, 5), holding(16, 0x0707070707070707), mov(6, 3),
		word(1, 0), at(2, 8), at(3, 16), mov(4, 0), call(2), word(1, 0), at(2, 8), call(1),
		word(1, 1), at(2, 16), call(3), call(5), mov(1, 1), mov(2, 2), call(6), call(7), []api.Insn{{Op: 23, Dst: 6, Imm: 1}, {Op: 85, Dst: 6, Off: -25}}, call(8), exit(),
	)
	e := api.Env{
		Ctx:   append(make([]byte, 0, 20), 1, 2, 3, 4),
		Defs:  append(make([]api.Def, 0, 9), hash(2, 8, 3), hash(1, 8, 2)),
		Items: append(make([][]api.Item, 0, 9), append(make([]api.Item, 0, 9), api.Item{Key: append(make([]byte, 0, 9), 1, 1), Val: append(make([]byte, 0, 20), fill(8, 1)...)}), items(7, 7, 8, 8)),
		Draws: append(make([]uint64, 0, 20), 11, 12, 13, 14, 15, 16, 17),
	}
	return append(make([]api.Insn, 0, 99), l...), e
}

// asItWas asks whether what was handed in is as it was.
func asItWas(t *testing.T, l []api.Insn, e api.Env) {
	t.Helper()
	was, given := busy()
	if !slices.Equal(l, was) || !slices.Equal(e.Ctx, given.Ctx) || !slices.Equal(e.Defs, given.Defs) || !slices.EqualFunc(e.Items, given.Items, sameItems) || !slices.Equal(e.Draws, given.Draws) {
		t.Errorf("what was handed in became %v, %v", l, e)
	}
	for _, room := range [][]byte{e.Ctx, e.Items[0][0].Key, e.Items[0][0].Val} {
		if slices.ContainsFunc(room[len(room):cap(room)], func(b byte) bool { return b != 0 }) {
			t.Errorf("the room behind a list became %v", room[:cap(room)])
		}
	}
	for _, n := range e.Draws[len(e.Draws):cap(e.Draws)] {
		if n != 0 {
			t.Errorf("the room behind what is drawn became %v", e.Draws[:cap(e.Draws)])
		}
	}
}

// P11.4: what is handed in is neither changed nor kept, with the room behind it.
func TestArgumentsStay(t *testing.T) {
	l, e := busy()
	m, _ := machine.New(l, e)
	want := newModel(l, e).run(5000)
	if want.Code != api.OK || len(want.Calls) != 19 {
		t.Fatalf("the busy program ends %v", want)
	}
	if got := m.Run(5000); !sameEnd(got, want) {
		t.Errorf("Run = %v; want %v", got, want)
	}
	asItWas(t, l, e)
	for steps := range 60 {
		l, e = busy()
		m, _ = machine.New(l, e)
		m.Run(steps)
		asItWas(t, l, e)
		for _, list := range e.Items {
			for _, x := range list {
				spoil(x.Key, 99)
				spoil(x.Val, 99)
			}
			spoil(list, api.Item{})
		}
		spoil(l, api.Insn{Op: 149})
		spoil(e.Ctx, 99)
		spoil(e.Defs, api.Def{})
		spoil(e.Items, nil)
		spoil(e.Draws, 99)
		if got := m.Run(5000); !sameEnd(got, want) {
			t.Errorf("behind %d steps Run hangs on what was handed in: %v; want %v", steps, got, want)
		}
	}
}

// spoilEnd puts something else all over an answer.
func spoilEnd(end api.End) {
	for _, c := range end.Calls {
		spoil(c.Key, 99)
		spoil(c.Val, 99)
		spoil(c.N, 99)
	}
	spoil(end.Calls, api.Called{Id: 99})
	for _, l := range end.Maps {
		for _, x := range l {
			spoil(x.Key, 99)
			spoil(x.Val, 99)
		}
		spoil(l, api.Item{})
	}
	spoil(end.Maps, nil)
}

// P11.3, P11.4: what is answered is the caller's: no other answer, nor what the program does, hangs on it.
func TestAnswersAreTheCallers(t *testing.T) {
	l, e := busy()
	for fuel := range 80 {
		want := newModel(l, e).run(fuel)
		m, _ := machine.New(l, e)
		a, b := m.Run(fuel), m.Run(fuel)
		spoilEnd(a)
		if !sameEnd(b, want) {
			t.Errorf("two answers of Run(%d) share memory: %v; want %v", fuel, b, want)
		}
		spoilEnd(b)
		if c := m.Run(fuel); !sameEnd(c, want) {
			t.Errorf("Run(%d) hangs on what it answered: %v; want %v", fuel, c, want)
		}
		if got, all := m.Run(5000), newModel(l, e).run(5000); !sameEnd(got, all) {
			t.Errorf("Run behind Run(%d) hangs on what that answered: %v; want %v", fuel, got, all)
		}
	}
}

// P11.3: of one answer no two lists share memory.
func TestListsOfOneAnswer(t *testing.T) {
	l, e := busy()
	m, _ := machine.New(l, e)
	end := m.Run(5000)
	want := newModel(l, e).run(5000)
	for i, c := range end.Calls {
		spoil(c.Key, 99)
		spoil(c.Val, 99)
		spoil(c.N, 99)
		if !sameCalls(end.Calls[i+1:], want.Calls[i+1:]) {
			t.Fatalf("call %d shares memory with another one", i)
		}
	}
	if !slices.EqualFunc(end.Maps, want.Maps, sameItems) {
		t.Error("calls share memory with maps")
	}
	for i := range end.Maps {
		spoil(end.Maps[i], api.Item{})
		if !slices.EqualFunc(end.Maps[i+1:], want.Maps[i+1:], sameItems) {
			t.Fatalf("map %d shares memory with another one", i)
		}
	}
}

// P11.4: two machines of the same go on beside each other, and end the same; register 10 stays.
func TestTwoMachines(t *testing.T) {
	l, e := busy()
	m, _ := machine.New(l, e)
	o, _ := machine.New(l, e)
	for !m.Over() {
		m.Step()
		has(t, m, 10, stack+512, true)
		if m.At()%3 == 0 {
			o.Step()
		}
	}
	want := newModel(l, e).run(5000)
	if a, b := m.Run(5000), o.Run(5000); !sameEnd(a, want) || !sameEnd(b, want) {
		t.Errorf("two machines end %v and %v; want %v", a, b, want)
	}
}
