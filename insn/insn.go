// Package insn is layer 1: see shared/doc/01-insn.md.
package insn

import "hackle/api"

// size is how many bytes an instruction has.
const size = 8

// maxReg is the greatest number that half a byte holds: both registers share one.
const maxReg = 15

// wideOp is the Op of an instruction whose number needs a second one.
const wideOp = 24

// Put is an instruction as bytes.
func Put(x api.Insn) ([]byte, api.Errno) {
	if x.Dst > maxReg || x.Src > maxReg {
		return nil, api.ErrArg
	}
	off, imm := uint16(x.Off), uint32(x.Imm)
	return []byte{
		x.Op,
		x.Dst | x.Src<<4,
		byte(off), byte(off >> 8),
		byte(imm), byte(imm >> 8), byte(imm >> 16), byte(imm >> 24),
	}, api.OK
}

// Take is the instruction that bytes are.
func Take(b []byte) (api.Insn, api.Errno) {
	if len(b) != size {
		return api.Insn{}, api.ErrCorrupt
	}
	off := uint16(b[2]) | uint16(b[3])<<8
	imm := uint32(b[4]) | uint32(b[5])<<8 | uint32(b[6])<<16 | uint32(b[7])<<24
	return api.Insn{
		Op:  b[0],
		Dst: b[1] & maxReg,
		Src: b[1] >> 4,
		Off: int16(off),
		Imm: int32(imm),
	}, api.OK
}

// Class is the lowest three bits of what is done.
func Class(x api.Insn) uint8 { return x.Op % 8 }

// Wide tells whether two instructions are one.
func Wide(x api.Insn) bool { return x.Op == wideOp }

// Long is the number of two instructions that are one.
func Long(x, y api.Insn) uint64 {
	// By way of 32 bits without a sign: else an Imm below 0 would fill the higher half.
	low, high := uint64(uint32(x.Imm)), uint64(uint32(y.Imm))
	return low | high<<32
}
