package check_test

import (
	"encoding/hex"
	"slices"
	"strings"
	"testing"

	"hackle/api"
	"hackle/check"
	"hackle/code"
)

// What the chapter counts, by its own numbers.
const (
	most = 1024 // steps that are looked at
	kept = 16   // states that are kept of a place
)

// The errors, by their own numbers.
const (
	errArg     = 1
	errFault   = 80
	errBlank   = 81
	errFixed   = 82
	errUnset   = 110
	errHelper  = 112
	errTold    = 113
	errAlign   = 130
	errPointer = 140
	errBudget  = 150
)

// Instructions of the tests' programs: exit is the end, chance puts a number of 32 bits to register 0.
var (
	exit   = api.Insn{Op: 0x95}
	chance = api.Insn{Op: 0x85, Imm: 7}
)

// Conditions that a number is held against that of the instruction.
const (
	jeq = 0x15
	jne = 0x55
	jgt = 0x25
	jge = 0x35
	jlt = 0xa5
	jle = 0xb5
)

// set puts a number to a register, add adds one to it; mov puts what is in a register to another one.
func set(dst uint8, n int32) api.Insn { return api.Insn{Op: 0xb7, Dst: dst, Imm: n} }
func add(dst uint8, n int32) api.Insn { return api.Insn{Op: 0x07, Dst: dst, Imm: n} }
func mov(dst, src uint8) api.Insn     { return api.Insn{Op: 0xbf, Dst: dst, Src: src} }

// jump jumps so far; branch does, if a register is so.
func jump(off int16) api.Insn { return api.Insn{Op: 0x05, Off: off} }
func branch(op, dst uint8, n int32, off int16) api.Insn {
	return api.Insn{Op: op, Dst: dst, Imm: n, Off: off}
}

// ins is a list of instructions.
func ins(x ...api.Insn) []api.Insn { return x }

// given is what the tests' programs are given: 20 bytes, a numbered map, one with keys of 3 bytes.
func given() api.Given {
	return api.Given{Defs: []api.Def{{Key: 4, Val: 16, Max: 2}, {Hash: true, Key: 3, Val: 8, Max: 4}}, Ctx: 20}
}

// number is a number of which that is known, as Val.
func number(value, mask, low, high uint64) api.Val {
	return api.Val{Kind: 1, N: api.Fact{Bits: api.Tnum{Value: value, Mask: mask}, Range: api.Span{Low: low, High: high}}}
}

// of is a number that is known.
func of(n uint64) api.Val { return number(n, 0, n, n) }

// been is the note of an instruction that was done, and tells v (or nothing); ways is that of a Branch.
func been(v api.Val) api.Note        { return api.Note{Been: true, V: v} }
func ways(goes, hops bool) api.Note  { return api.Note{Been: true, Goes: goes, Hops: hops} }
func nothing() api.Val               { return api.Val{} }
func notes(n ...api.Note) []api.Note { return n }

// same tells whether two verdicts are the same.
func same(a, b api.Verdict) bool {
	return a.Code == b.Code && a.At == b.At && a.Steps == b.Steps && slices.Equal(a.Notes, b.Notes)
}

// may asks that a program may run, behind so many steps, with these notes.
func may(t *testing.T, l []api.Insn, steps int, n ...api.Note) {
	t.Helper()
	if v := check.Program(l, given()); !same(v, api.Verdict{Steps: steps, Notes: n}) {
		t.Errorf("%v: %v; want %d steps, %v", l, v, steps, n)
	}
}

// counts asks that a program may run, behind so many steps.
func counts(t *testing.T, l []api.Insn, steps int) {
	t.Helper()
	v := check.Program(l, given())
	if v.Code != 0 || v.At != 0 || v.Steps != steps || len(v.Notes) != len(l) {
		t.Errorf("%v: error %d at %d, %d steps, %d notes; want %d steps, %d notes", l, v.Code, v.At, v.Steps, len(v.Notes), steps, len(l))
	}
}

// refuses asks that a program may not run, and why, and where, and behind how many steps.
func refuses(t *testing.T, l []api.Insn, g api.Given, want api.Errno, at, steps int) {
	t.Helper()
	if v := check.Program(l, g); !same(v, api.Verdict{Code: want, At: at, Steps: steps}) {
		t.Errorf("%v: error %d at %d, %d steps, %d notes; want error %d at %d, %d steps, none", l, v.Code, v.At, v.Steps, len(v.Notes), want, at, steps)
	}
}

// decoded is a program whose bytes stand there as digits.
func decoded(t *testing.T, text ...string) []api.Insn {
	t.Helper()
	b, wrong := hex.DecodeString(strings.Join(text, ""))
	if wrong != nil {
		t.Fatal(wrong)
	}
	l, at, e := code.Decode(b)
	if e != 0 {
		t.Fatalf("%v is no program: error %d at %d", text, e, at)
	}
	return l
}
