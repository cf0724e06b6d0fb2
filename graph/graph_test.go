package graph_test

import (
	"math"
	"slices"
	"testing"

	"hackle/api"
	"hackle/graph"
)

// Instructions of the tests' programs: exit is the end, call a helper; num and table have the other half that is behind each of them here.
var (
	exit  = api.Insn{Op: 0x95}
	mov   = api.Insn{Op: 0xb7, Imm: 1}
	call  = api.Insn{Op: 0x85, Imm: 7}
	num   = api.Insn{Op: 0x18, Dst: 3, Imm: 2}
	table = api.Insn{Op: 0x18, Dst: 3, Src: 1, Imm: 2}
	half  = api.Insn{}
)

// jump jumps so far, far by its Imm; branch does, if register 0 is so.
func jump(by int16) api.Insn   { return api.Insn{Op: 0x05, Off: by} }
func far(by int32) api.Insn    { return api.Insn{Op: 0x06, Imm: by} }
func branch(by int16) api.Insn { return api.Insn{Op: 0x15, Off: by, Imm: 5} }

// ins is a list of instructions.
func ins(x ...api.Insn) []api.Insn { return x }

// example is the chapter's.
var example = ins(mov, branch(1), mov, exit)

// longest is as many instructions as there may be, and of these the one at a place.
func longest(at int, x api.Insn) []api.Insn {
	l := append(slices.Repeat(ins(mov), 511), exit)
	l[at] = x
	return l
}

// aims is a program, and what is Ahead of its places (nil of other halves).
type aims struct {
	l    []api.Insn
	want [][]int
}

// programs are of all kinds of instructions, and of jumps.
var programs = []aims{
	{example, [][]int{{1}, {2, 3}, {3}, {}}},
	{ins(exit), [][]int{{}}},
	{ins(exit, exit), [][]int{{}, {}}},
	{ins(jump(-1)), [][]int{{0}}},
	{ins(far(-1)), [][]int{{0}}},
	{ins(jump(0), exit), [][]int{{1}, {}}},
	{ins(far(0), exit), [][]int{{1}, {}}},
	{ins(jump(1), mov, exit), [][]int{{2}, {2}, {}}},
	{ins(far(1), mov, exit), [][]int{{2}, {2}, {}}},
	{ins(mov, call, jump(-3)), [][]int{{1}, {2}, {0}}},
	{ins(mov, call, far(-2)), [][]int{{1}, {2}, {1}}},
	{ins(exit, jump(-2)), [][]int{{}, {0}}},
	{ins(exit, jump(-1)), [][]int{{}, {1}}},
	// The next one is the target, too: told once.
	{ins(branch(0), exit), [][]int{{1}, {}}},
	{ins(mov, branch(0), branch(0), exit), [][]int{{1}, {2}, {3}, {}}},
	// Rising, wherever the target lies.
	{ins(branch(-1), exit), [][]int{{0, 1}, {}}},
	{ins(mov, mov, branch(-3), exit), [][]int{{1}, {2}, {0, 3}, {}}},
	{ins(mov, mov, branch(-2), exit), [][]int{{1}, {2}, {1, 3}, {}}},
	{ins(branch(2), exit, exit, exit), [][]int{{1, 3}, {}, {}, {}}},
	// An other half is none's.
	{ins(num, half, exit), [][]int{{2}, nil, {}}},
	{ins(table, half, num, half, jump(-5)), [][]int{{2}, nil, {4}, nil, {0}}},
	{ins(branch(2), num, half, exit), [][]int{{1, 3}, {3}, nil, {}}},
	{ins(num, half, branch(-3), exit), [][]int{{2}, nil, {0, 3}, {}}},
	{ins(branch(0), num, half, exit), [][]int{{1}, {3}, nil, {}}},
	{ins(num, api.Insn{Imm: 1}, exit), [][]int{{2}, nil, {}}},
	// All kinds that go on.
	{ins(api.Insn{Op: 0x0f, Src: 1}, api.Insn{Op: 0x87}, api.Insn{Op: 0xdc, Imm: 16}, api.Insn{Op: 0x79, Src: 1, Off: -3}, api.Insn{Op: 0x7a, Dst: 10, Off: -3, Imm: -3},
		api.Insn{Op: 0x7b, Dst: 10, Off: -3}, api.Insn{Op: 0xdb, Dst: 10, Off: -3}, call, exit), [][]int{{1}, {2}, {3}, {4}, {5}, {6}, {7}, {8}, {}}},
}

// told asks for places.
func told(t *testing.T, what string, l []api.Insn, at int, got []int, want ...int) {
	t.Helper()
	if !slices.Equal(got, want) {
		t.Errorf("%s of %d of %v: %v; want %v", what, at, l, got, want)
	}
}

// sets asks which places are true.
func sets(t *testing.T, what string, l []api.Insn, got []bool, want ...int) {
	t.Helper()
	if len(got) != len(l) {
		t.Fatalf("%s of %v tells of %d places; want %d", what, l, len(got), len(l))
	}
	for i, is := range got {
		if is != slices.Contains(want, i) {
			t.Errorf("%s of %v: of %d %t; want %v", what, l, i, is, want)
		}
	}
}

// The chapter's example.
func TestExample(t *testing.T) {
	told(t, "Ahead", example, 1, graph.Ahead(example, 1), 2, 3)
	told(t, "Behind", example, 3, graph.Behind(example, 3), 1, 2)
	sets(t, "Heads", example, graph.Heads(example), 0, 2, 3)
}

// P16.1: what is Ahead of each place, by hand.
func TestAhead(t *testing.T) {
	for _, c := range programs {
		for at, want := range c.want {
			told(t, "Ahead", c.l, at, graph.Ahead(c.l, at), want...)
		}
	}
}

// P16.1: what is Behind each place: all that have it Ahead, rising.
func TestBehind(t *testing.T) {
	for _, c := range programs {
		for at := range c.l {
			var want []int
			for from, places := range c.want {
				if slices.Contains(places, at) {
					want = append(want, from)
				}
			}
			told(t, "Behind", c.l, at, graph.Behind(c.l, at), want...)
		}
	}
	l := ins(mov, branch(2), branch(1), branch(0), mov, branch(-2), jump(-3))
	told(t, "Behind", l, 4, graph.Behind(l, 4), 1, 2, 3, 5, 6)
	// What no way leads to may be there, too.
	l = ins(exit, exit, mov, jump(-3))
	told(t, "Behind", l, 1, graph.Behind(l, 1), 3)
	told(t, "Behind", l, 3, graph.Behind(l, 3), 2)
}

// P16.1: of all conditions, wide or narrow, with a register or without.
func TestOfAllBranches(t *testing.T) {
	for _, op := range []uint8{0x10, 0x20, 0x30, 0x40, 0x50, 0x60, 0x70, 0xa0, 0xb0, 0xc0, 0xd0} {
		for _, class := range []uint8{5, 6} {
			for _, x := range []api.Insn{{Op: op | class, Dst: 1, Off: 1, Imm: -9}, {Op: op | class | 8, Dst: 10, Src: 2, Off: 1}} {
				l := ins(x, mov, exit, mov, exit)
				told(t, "Ahead", l, 0, graph.Ahead(l, 0), 1, 2)
				told(t, "Behind", l, 2, graph.Behind(l, 2), 0, 1)
				sets(t, "Reach", l, graph.Reach(l, 0), 0, 1, 2)
				sets(t, "Heads", l, graph.Heads(l), 0, 1, 2, 3)
			}
		}
	}
}

// P16.1: of programs as long as may be, jumps from end to end.
func TestOfTheLongest(t *testing.T) {
	for _, x := range []api.Insn{jump(510), far(510)} {
		l := longest(0, x)
		told(t, "Ahead", l, 0, graph.Ahead(l, 0), 511)
		told(t, "Behind", l, 511, graph.Behind(l, 511), 0, 510)
		told(t, "Behind", l, 1, graph.Behind(l, 1))
		sets(t, "Reach", l, graph.Reach(l, 0), 0, 511)
		sets(t, "Heads", l, graph.Heads(l), 0, 1, 511)
	}
	for _, x := range []api.Insn{jump(-512), far(-512)} {
		l := longest(511, x)
		told(t, "Ahead", l, 511, graph.Ahead(l, 511), 0)
		told(t, "Behind", l, 0, graph.Behind(l, 0), 511)
		sets(t, "Heads", l, graph.Heads(l), 0)
		if !graph.Loops(l) || slices.Contains(graph.Reach(l, 300), false) {
			t.Errorf("a circle of 512 instructions: Reach of 300 is %v", graph.Reach(l, 300))
		}
	}
	l := slices.Repeat(ins(branch(-1)), 511)
	l = append(l, exit)
	told(t, "Ahead", l, 510, graph.Ahead(l, 510), 510, 511)
	sets(t, "Reach", l, graph.Reach(l, 509), 509, 510, 511)
}

// wrongs are lists that are no programs.
var wrongs = [][]api.Insn{
	nil, {}, ins(mov), ins(half), ins(mov, mov), ins(exit, mov), ins(exit, branch(-2)), ins(branch(-1)),
	ins(jump(0)), ins(jump(1), exit), ins(jump(-2), exit), ins(far(1), exit), ins(far(math.MinInt32), exit), ins(branch(1), exit), ins(mov, branch(-3), exit),
	ins(jump(1), num, half, exit), ins(branch(1), num, half, exit), ins(num, half, branch(-2), exit), ins(num), ins(num, half), ins(num, exit), ins(table, api.Insn{Imm: 1}, exit),
	ins(mov, half, exit), ins(mov, api.Insn{Op: 0xb7, Dst: 10}, exit), ins(mov, exit, api.Insn{Op: 0x05, Imm: 1}), ins(mov, exit, api.Insn{Op: 0x15, Src: 1}, exit), ins(exit, api.Insn{Op: 0xff, Dst: 255, Src: 255, Off: -1, Imm: -1}, exit),
	slices.Repeat(ins(exit), 513), append(slices.Repeat(ins(mov), 512), jump(-1)), slices.Repeat(ins(jump(-1)), 3000),
}

// places are some at which instructions begin, and some that are none.
var places = []int{0, 1, 2, 3, 4, 5, -1, -2, 8, 511, 512, 513, 3000, 1 << 32, -1 << 32, math.MaxInt, math.MinInt}

// P16.1, P16.2: of what is no program nothing is told.
func TestOfNoProgram(t *testing.T) {
	for _, l := range wrongs {
		for _, at := range places {
			told(t, "Ahead", l, at, graph.Ahead(l, at))
			told(t, "Behind", l, at, graph.Behind(l, at))
			if got := graph.Reach(l, at); len(got) != 0 {
				t.Errorf("Reach of %d of %v: %v; want none", at, l, got)
			}
		}
		if got := graph.Heads(l); len(got) != 0 {
			t.Errorf("Heads of %v: %v; want none", l, got)
		}
		if graph.Loops(l) {
			t.Errorf("Loops of %v", l)
		}
	}
}

// P16.1, P16.2: of a place at which no instruction begins nothing is told, and nothing is reached; but Reach tells so of each place.
func TestOfNoPlace(t *testing.T) {
	for _, c := range programs {
		for _, at := range places {
			if at >= 0 && at < len(c.l) && c.want[at] != nil {
				continue
			}
			told(t, "Ahead", c.l, at, graph.Ahead(c.l, at))
			told(t, "Behind", c.l, at, graph.Behind(c.l, at))
			sets(t, "Reach", c.l, graph.Reach(c.l, at))
		}
	}
	// An other half that looks like an instruction is none.
	l := ins(num, api.Insn{Imm: -1}, mov, exit)
	told(t, "Ahead", l, 1, graph.Ahead(l, 1))
	sets(t, "Reach", l, graph.Reach(l, 1))
	sets(t, "Reach", l, graph.Reach(l, 0), 0, 2, 3)
}

// All that is told of a program: its lists, one by one.
func all(l []api.Insn) (lists [][]int, sets [][]bool, loops bool) {
	for at := range l {
		lists = append(lists, graph.Ahead(l, at), graph.Behind(l, at))
		sets = append(sets, graph.Reach(l, at))
	}
	return lists, append(sets, graph.Heads(l)), graph.Loops(l)
}

// same tells whether of two programs the same is told.
func same(l, k []api.Insn) bool {
	lists, sets, loops := all(l)
	others, more, loop := all(k)
	return slices.EqualFunc(lists, others, slices.Equal) && slices.EqualFunc(sets, more, slices.Equal) && loops == loop
}

// P16.1, P16.2: what is handed in stays, what is behind a list's length is not read, and that stays, too.
func TestOfWhatIsHandedIn(t *testing.T) {
	for _, c := range programs {
		for _, x := range ins(exit, mov, jump(-1), branch(-2), half, num) {
			room := append(slices.Clone(c.l), x, exit, jump(-2))
			was := slices.Clone(room)
			if l := room[:len(c.l)]; !same(l, c.l) {
				t.Errorf("%v: with %v behind it something else is told", c.l, x)
			}
			if !slices.Equal(room, was) {
				t.Errorf("%v became %v", was, room)
			}
		}
	}
	room := ins(branch(1), mov, exit)
	if got := graph.Heads(room[:2]); len(got) != 0 {
		t.Errorf("Heads of what ends ahead of its Exit: %v", got)
	}
}

// P16.1, P16.2: what is answered is the caller's: to change it, and the room behind it, changes no other answer.
func TestAnswersAreTheCallers(t *testing.T) {
	l := ins(mov, branch(1), mov, branch(-3), exit)
	lists, sets, _ := all(l)
	again, more, _ := all(l)
	for _, list := range lists {
		list = list[:cap(list)]
		for i := range list {
			list[i] = 99
		}
	}
	for _, set := range sets {
		set = set[:cap(set)]
		for i := range set {
			set[i] = !set[i]
		}
	}
	lists, sets, _ = all(l)
	if !slices.EqualFunc(lists, again, slices.Equal) || !slices.EqualFunc(sets, more, slices.Equal) {
		t.Errorf("%v: %v, %v; they were %v, %v", l, lists, sets, again, more)
	}
}
