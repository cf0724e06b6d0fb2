package check_test

import (
	"math/rand/v2"
	"testing"

	"hackle/api"
	"hackle/check"
	"hackle/code"
	"hackle/machine"
	"hackle/val"
)

// someEnv is something that a program may be given, by what is known of it.
func someEnv(r *rand.Rand, g api.Given) api.Env {
	e := api.Env{Ctx: someBytes(r, g.Ctx), Defs: g.Defs}
	for range one(r, 0, 1, 3, 60, 60, 60) {
		e.Draws = append(e.Draws, r.Uint64()>>r.IntN(64))
	}
	for _, def := range g.Defs {
		var l []api.Item
		for n := range r.IntN(def.Max + 1) {
			key := make([]byte, def.Key)
			key[0] = byte(n)
			l = append(l, api.Item{Key: key, Val: someBytes(r, def.Val)})
		}
		e.Items = append(e.Items, l)
	}
	return e
}

// someBytes is n bytes.
func someBytes(r *rand.Rand, n int) []byte {
	l := make([]byte, n)
	for i := range l {
		l[i] = byte(r.Uint32()) & one[byte](r, 0, 1, 7, 255)
	}
	return l
}

// runs counts what runs did.
type runs struct {
	kinds            map[uint8]int
	ends, dry, known int
}

// follow runs a program that may run, and asks at each step that it is done without an error, and that what it does was noted.
func (n *runs) follow(t *testing.T, l []api.Insn, e api.Env, v api.Verdict) {
	t.Helper()
	m, wrong := machine.New(l, e)
	if wrong != 0 {
		t.Fatalf("New of %v, %v: error %d", l, e, wrong)
	}
	for steps := 1; !m.Over(); steps++ {
		at := m.At()
		x, w := v.Notes[at], kind(l[at])
		if !x.Been || steps > v.Steps {
			t.Fatalf("%v, given %v, is at %d in its step %d: %v, %d steps", l, e, at, steps, x, v.Steps)
		}
		switch wrong := m.Step(); wrong {
		case 0:
		case api.ErrDry:
			n.dry++
			return
		default:
			t.Fatalf("%v, given %v, at %d: error %d, but it may run", l, e, at, wrong)
		}
		n.kinds[w]++
		switch w {
		case api.Exit:
			n.ends++
		case api.Branch:
			to, _ := code.Target(l, at)
			if m.At() == at+1 && !x.Goes || m.At() == to && !x.Hops {
				t.Fatalf("%v, given %v, goes from %d to %d: %v", l, e, at, m.At(), x)
			}
		case api.Arith, api.Swaps, api.Number, api.Table, api.Load:
			if became, set := m.Reg(int(l[at].Dst)); !val.Is(x.V, became, set) {
				t.Fatalf("%v, given %v, at %d: %#x, but %v", l, e, at, became, x.V)
			}
			if x.V != nothing() {
				n.known++
			}
		}
	}
}

// kind is the kind of an instruction.
func kind(x api.Insn) uint8 {
	w, _ := code.What(x)
	return w.Kind
}

// P15.3: a program that may run does so without an error, whatever it is given, and ends behind as many steps as were looked at, at most; what it does is noted.
func TestRuns(t *testing.T) {
	r := rand.New(rand.NewPCG(15, 3))
	n, may := &runs{kinds: map[uint8]int{}}, 0
	for range 600 {
		l, g := someProgram(r)
		v := check.Program(l, g)
		if v.Code != 0 {
			continue
		}
		may++
		for range 6 {
			e := someEnv(r, g)
			n.follow(t, l, e, v)
			m, _ := machine.New(l, e)
			if end := m.Run(v.Steps); end.Code != 0 && end.Code != api.ErrDry || end.Steps > v.Steps {
				t.Fatalf("%v, given %v, ends %v; %d steps were looked at", l, e, end, v.Steps)
			}
		}
	}
	t.Log(may, n)
	if may < 300 || n.ends < 1500 || n.dry < 100 || n.known < 10000 {
		t.Errorf("%d programs, %d ends, %d of them dry, %d of what is known: too few to be tried", may, n.ends, n.dry, n.known)
	}
	for kind := api.Arith; kind <= api.Exit; kind++ {
		if n.kinds[kind] < 100 {
			t.Errorf("kind %d was done %d times: too seldom to be tried", kind, n.kinds[kind])
		}
	}
}

// P15.3: a program may do as many steps as were looked at, but not one less would do.
func TestRunsAsLong(t *testing.T) {
	for _, l := range [][]api.Insn{
		ins(set(0, 7), exit), rounds(0, 1), rounds(3, 40), rounds(0, 511), rounds(508, 257), ins(set(0, 5), branch(jeq, 0, 5, 1), exit, jump(0), exit), append(make([]api.Insn, 0, 9), set(0, 1), mov(6, 10), add(6, -8), api.Insn{Op: 0x7b, Dst: 6, Src: 1}, exit),
	} {
		v := check.Program(l, given())
		m, wrong := machine.New(l, api.Env{Ctx: make([]byte, 20), Defs: given().Defs})
		if wrong != 0 || v.Code != 0 {
			t.Fatalf("%v: errors %d, %d", l, wrong, v.Code)
		}
		if end := m.Run(v.Steps); end.Code != 0 || end.Steps != v.Steps {
			t.Errorf("%v ends %v; %d steps were looked at", l, end, v.Steps)
		}
	}
}

// P15.3: what may not run would go wrong, of what it is given here.
func TestWrongRuns(t *testing.T) {
	for _, c := range []struct {
		l    []api.Insn
		want api.Errno
	}{
		{ins(exit), errUnset}, {ins(set(0, 1), mov(3, 2), exit), errUnset}, {ins(api.Insn{Op: 0x79, Src: 1, Off: 13}, exit), errFault}, {ins(api.Insn{Op: 0x79, Src: 10, Off: -8}, exit), errBlank}, {ins(api.Insn{Op: 0x72, Dst: 1}, exit), errFixed},
		{ins(api.Insn{Op: 0x85, Imm: 4}, exit), errHelper}, {ins(api.Insn{Op: 0x85, Imm: 1}, exit), errTold}, {ins(api.Insn{Op: 24, Src: 1, Imm: 2}, api.Insn{}, exit), errTold},
	} {
		m, _ := machine.New(c.l, api.Env{Ctx: make([]byte, 20), Defs: given().Defs})
		end, v := m.Run(most), check.Program(c.l, given())
		if v.Code != c.want || end.Code != c.want || v.At != end.At {
			t.Errorf("%v: error %d at %d, but it ends with %d at %d; want %d", c.l, v.Code, v.At, end.Code, end.At, c.want)
		}
	}
}
