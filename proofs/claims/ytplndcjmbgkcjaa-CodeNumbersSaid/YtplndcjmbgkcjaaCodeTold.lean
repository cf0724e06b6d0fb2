/-
  Plain instructions, as the program tells them: kind by kind, with the fields that each has; it is what the document says. No program is named here.
-/
import Derived.Test.YtplndcjmbgkcjaaCodePlain
namespace Go.Proofs.Ytplndcjmbgkcjaa
open Go Go.RowKit
set_option linter.unusedVariables false
set_option linter.unusedSimpArgs false

def szT (op : Int) : Int := if op / 8 % 4 = 0 then 4 else if op / 8 % 4 = 1 then 2 else if op / 8 % 4 = 2 then 1 else 8
def tDouble (x : Ins) : Wh × Int :=
  if x.op == 24 then (if x.src == 0 then (⟨3, 0, true, false, false, 0⟩, 17) else if x.src == 1 && decide (0 ≤ x.imm) then (⟨4, 0, true, false, false, 0⟩, 21) else (Wh.zero, 0)) else (Wh.zero, 0)
def tLoad (x : Ins) : Wh × Int :=
  if x.op / 32 * 32 == 96 || (x.op / 32 * 32 == 128 && decide (szT x.op < 8)) then (⟨5, 0, false, false, x.op / 32 * 32 == 128, szT x.op⟩, 13) else (Wh.zero, 0)
def tStore (x : Ins) : Wh × Int :=
  if x.op / 32 * 32 == 96 then (⟨6, 0, false, false, false, szT x.op⟩, 26) else (Wh.zero, 0)
def atomB (n : Int) : Bool := n == 0 || n == 64 || n == 80 || n == 160
def tPut (x : Ins) : Wh × Int :=
  if x.op / 32 * 32 == 96 then (⟨7, 0, false, true, false, szT x.op⟩, 14)
  else if x.op / 32 * 32 == 192 && decide (4 ≤ szT x.op) && atomB x.imm then (⟨8, x.imm % 256, false, true, false, szT x.op⟩, 30) else (Wh.zero, 0)
def swapB (n : Int) : Bool := n == 212 || n == 215 || n == 220
def tSwaps (x : Ins) : Wh × Int :=
  if !swapB x.op || (x.imm != 16 && x.imm != 32 && x.imm != 64) then (Wh.zero, 0) else (⟨2, 0, x.op != 212, false, false, x.imm.tdiv 8⟩, 17)
def offB (o : Int) (wide reg : Bool) (off : Int) : Bool :=
  if off == 0 then true else if o == 48 || o == 144 then off == 1 else if o == 176 && reg then off == 8 || off == 16 || (off == 32 && wide) else false
def secF (x : Ins) : Int := if x.op / 8 % 2 == 1 then 4 else 16
def tArith (x : Ins) : Wh × Int :=
  if !offB (x.op / 16 * 16) (x.op % 8 == 7) (x.op / 8 % 2 == 1) x.off then (Wh.zero, 0)
  else if x.op / 16 * 16 != 128 then (arW x, 9 + secF x)
  else if x.op / 8 % 2 == 1 then (Wh.zero, 0) else (arW x, 1)
def tAlone (x : Ins) : Wh × Int :=
  if x.op == 5 then (⟨9, 0, false, false, false, 0⟩, 8) else if x.op == 6 then (⟨9, 0, false, false, false, 0⟩, 16)
  else if x.op == 133 then (⟨11, 0, false, false, false, 0⟩, 16) else if x.op == 149 then (⟨12, 0, false, false, false, 0⟩, 0) else (Wh.zero, 0)
def tBranch (x : Ins) : Wh × Int :=
  if inB [16, 80, 64, 32, 48, 160, 176, 96, 112, 192, 208] (x.op / 16 * 16) then (brW x, 10 + secF x) else (Wh.zero, 0)
/-- What an instruction does, and the fields that it has for that. -/
def tTold (x : Ins) : Wh × Int :=
  if x.op % 8 == 0 then tDouble x
  else if x.op % 8 == 1 then tLoad x
  else if x.op % 8 == 2 then tStore x
  else if x.op % 8 == 3 then tPut x
  else if x.op % 8 == 4 || x.op % 8 == 7 then (if decide (192 < x.op / 16 * 16) then tSwaps x else tArith x)
  else if (tAlone x).1.kind != 0 then tAlone x else tBranch x
def tOnly (x : Ins) (f : Int) : Bool := (x.dst == 0 || f % 4 != 0) && ((x.src == 0 || f / 4 % 2 * 4 != 0) && ((x.off == 0 || f / 8 % 2 * 8 != 0) && (x.imm == 0 || f / 16 % 2 * 16 != 0)))
def tRegs (x : Ins) (f : Int) : Bool := decide (x.dst ≤ 10) && (decide (x.src ≤ 10) && (x.dst != 10 || f % 2 == 0))
def tOk (x : Ins) : Bool := (tTold x).1.kind != 0 && (tOnly x (tTold x).2 && tRegs x (tTold x).2)

set_option maxHeartbeats 16000000 in
set_option maxRecDepth 100000 in
theorem told_c0 (x : Ins) (hx : x.ok) (h : x.op % 8 = 0) : tOk x = wOk x ∧ (wOk x = true → (tTold x).1 = waW x) := by
  obtain ⟨op, dst, src, off, imm⟩ := x
  obtain ⟨⟨o1, o2⟩, ⟨d1, d2⟩, ⟨s1, s2⟩, _, i1, i2⟩ := hx
  simp only at *
  obtain ⟨q, rfl⟩ : ∃ q : Int, op = 8 * q + 0 := ⟨op / 8, by omega⟩
  have hq : 0 ≤ q ∧ q < 32 := by omega
  clear o1 o2 h
  have all : q = 0 ∨ q = 1 ∨ q = 2 ∨ q = 3 ∨ q = 4 ∨ q = 5 ∨ q = 6 ∨ q = 7 ∨ q = 8 ∨ q = 9 ∨ q = 10 ∨ q = 11 ∨ q = 12 ∨ q = 13 ∨ q = 14 ∨ q = 15 ∨ q = 16 ∨ q = 17 ∨ q = 18 ∨ q = 19 ∨ q = 20 ∨ q = 21 ∨ q = 22 ∨ q = 23 ∨ q = 24 ∨ q = 25 ∨ q = 26 ∨ q = 27 ∨ q = 28 ∨ q = 29 ∨ q = 30 ∨ q = 31 := by omega
  rcases all with rfl | rfl | rfl | rfl | rfl | rfl | rfl | rfl | rfl | rfl | rfl | rfl | rfl | rfl | rfl | rfl | rfl | rfl | rfl | rfl | rfl | rfl | rfl | rfl | rfl | rfl | rfl | rfl | rfl | rfl | rfl | rfl
  all_goals
    first
      | (refine ⟨?_, fun h => ?_⟩ <;> first | rfl | (exact absurd h Bool.false_ne_true))
      | (refine ⟨?_, ?_⟩
         · simp (config := { decide := true }) [tOk, tTold, tDouble, tLoad, tStore, tPut, tSwaps, tArith, tAlone, tBranch, tOnly, tRegs, szT, atomB, swapB, offB, secF, Wh.zero, wOk, waW, arW, arOk, arOff, ariths, inB, meW, meOk, otW, otOk, others, jumps, brW, brOk, szL, szG, szS, szP, szFrom, onlyB] <;> (try rw [Bool.eq_iff_iff]) <;> (try simp) <;> (repeat' split) <;> (try omega) <;> (try simp_all) <;> (try omega)
         · simp (config := { decide := true }) [tOk, tTold, tDouble, tLoad, tStore, tPut, tSwaps, tArith, tAlone, tBranch, tOnly, tRegs, szT, atomB, swapB, offB, secF, Wh.zero, wOk, waW, arW, arOk, arOff, ariths, inB, meW, meOk, otW, otOk, others, jumps, brW, brOk, szL, szG, szS, szP, szFrom, onlyB] <;> (try (intros; simp_all)) <;> (repeat' split) <;> (try omega) <;> (try simp_all) <;> (try omega))
set_option maxHeartbeats 16000000 in
set_option maxRecDepth 100000 in
theorem told_c1 (x : Ins) (hx : x.ok) (h : x.op % 8 = 1) : tOk x = wOk x ∧ (wOk x = true → (tTold x).1 = waW x) := by
  obtain ⟨op, dst, src, off, imm⟩ := x
  obtain ⟨⟨o1, o2⟩, ⟨d1, d2⟩, ⟨s1, s2⟩, _, i1, i2⟩ := hx
  simp only at *
  obtain ⟨q, rfl⟩ : ∃ q : Int, op = 8 * q + 1 := ⟨op / 8, by omega⟩
  have hq : 0 ≤ q ∧ q < 32 := by omega
  clear o1 o2 h
  have all : q = 0 ∨ q = 1 ∨ q = 2 ∨ q = 3 ∨ q = 4 ∨ q = 5 ∨ q = 6 ∨ q = 7 ∨ q = 8 ∨ q = 9 ∨ q = 10 ∨ q = 11 ∨ q = 12 ∨ q = 13 ∨ q = 14 ∨ q = 15 ∨ q = 16 ∨ q = 17 ∨ q = 18 ∨ q = 19 ∨ q = 20 ∨ q = 21 ∨ q = 22 ∨ q = 23 ∨ q = 24 ∨ q = 25 ∨ q = 26 ∨ q = 27 ∨ q = 28 ∨ q = 29 ∨ q = 30 ∨ q = 31 := by omega
  rcases all with rfl | rfl | rfl | rfl | rfl | rfl | rfl | rfl | rfl | rfl | rfl | rfl | rfl | rfl | rfl | rfl | rfl | rfl | rfl | rfl | rfl | rfl | rfl | rfl | rfl | rfl | rfl | rfl | rfl | rfl | rfl | rfl
  all_goals
    first
      | (refine ⟨?_, fun h => ?_⟩ <;> first | rfl | (exact absurd h Bool.false_ne_true))
      | (refine ⟨?_, ?_⟩
         · simp (config := { decide := true }) [tOk, tTold, tDouble, tLoad, tStore, tPut, tSwaps, tArith, tAlone, tBranch, tOnly, tRegs, szT, atomB, swapB, offB, secF, Wh.zero, wOk, waW, arW, arOk, arOff, ariths, inB, meW, meOk, otW, otOk, others, jumps, brW, brOk, szL, szG, szS, szP, szFrom, onlyB] <;> (try rw [Bool.eq_iff_iff]) <;> (try simp) <;> (repeat' split) <;> (try omega) <;> (try simp_all) <;> (try omega)
         · simp (config := { decide := true }) [tOk, tTold, tDouble, tLoad, tStore, tPut, tSwaps, tArith, tAlone, tBranch, tOnly, tRegs, szT, atomB, swapB, offB, secF, Wh.zero, wOk, waW, arW, arOk, arOff, ariths, inB, meW, meOk, otW, otOk, others, jumps, brW, brOk, szL, szG, szS, szP, szFrom, onlyB] <;> (try (intros; simp_all)) <;> (repeat' split) <;> (try omega) <;> (try simp_all) <;> (try omega))
set_option maxHeartbeats 16000000 in
set_option maxRecDepth 100000 in
theorem told_c2 (x : Ins) (hx : x.ok) (h : x.op % 8 = 2) : tOk x = wOk x ∧ (wOk x = true → (tTold x).1 = waW x) := by
  obtain ⟨op, dst, src, off, imm⟩ := x
  obtain ⟨⟨o1, o2⟩, ⟨d1, d2⟩, ⟨s1, s2⟩, _, i1, i2⟩ := hx
  simp only at *
  obtain ⟨q, rfl⟩ : ∃ q : Int, op = 8 * q + 2 := ⟨op / 8, by omega⟩
  have hq : 0 ≤ q ∧ q < 32 := by omega
  clear o1 o2 h
  have all : q = 0 ∨ q = 1 ∨ q = 2 ∨ q = 3 ∨ q = 4 ∨ q = 5 ∨ q = 6 ∨ q = 7 ∨ q = 8 ∨ q = 9 ∨ q = 10 ∨ q = 11 ∨ q = 12 ∨ q = 13 ∨ q = 14 ∨ q = 15 ∨ q = 16 ∨ q = 17 ∨ q = 18 ∨ q = 19 ∨ q = 20 ∨ q = 21 ∨ q = 22 ∨ q = 23 ∨ q = 24 ∨ q = 25 ∨ q = 26 ∨ q = 27 ∨ q = 28 ∨ q = 29 ∨ q = 30 ∨ q = 31 := by omega
  rcases all with rfl | rfl | rfl | rfl | rfl | rfl | rfl | rfl | rfl | rfl | rfl | rfl | rfl | rfl | rfl | rfl | rfl | rfl | rfl | rfl | rfl | rfl | rfl | rfl | rfl | rfl | rfl | rfl | rfl | rfl | rfl | rfl
  all_goals
    first
      | (refine ⟨?_, fun h => ?_⟩ <;> first | rfl | (exact absurd h Bool.false_ne_true))
      | (refine ⟨?_, ?_⟩
         · simp (config := { decide := true }) [tOk, tTold, tDouble, tLoad, tStore, tPut, tSwaps, tArith, tAlone, tBranch, tOnly, tRegs, szT, atomB, swapB, offB, secF, Wh.zero, wOk, waW, arW, arOk, arOff, ariths, inB, meW, meOk, otW, otOk, others, jumps, brW, brOk, szL, szG, szS, szP, szFrom, onlyB] <;> (try rw [Bool.eq_iff_iff]) <;> (try simp) <;> (repeat' split) <;> (try omega) <;> (try simp_all) <;> (try omega)
         · simp (config := { decide := true }) [tOk, tTold, tDouble, tLoad, tStore, tPut, tSwaps, tArith, tAlone, tBranch, tOnly, tRegs, szT, atomB, swapB, offB, secF, Wh.zero, wOk, waW, arW, arOk, arOff, ariths, inB, meW, meOk, otW, otOk, others, jumps, brW, brOk, szL, szG, szS, szP, szFrom, onlyB] <;> (try (intros; simp_all)) <;> (repeat' split) <;> (try omega) <;> (try simp_all) <;> (try omega))
set_option maxHeartbeats 16000000 in
set_option maxRecDepth 100000 in
theorem told_c3 (x : Ins) (hx : x.ok) (h : x.op % 8 = 3) : tOk x = wOk x ∧ (wOk x = true → (tTold x).1 = waW x) := by
  obtain ⟨op, dst, src, off, imm⟩ := x
  obtain ⟨⟨o1, o2⟩, ⟨d1, d2⟩, ⟨s1, s2⟩, _, i1, i2⟩ := hx
  simp only at *
  obtain ⟨q, rfl⟩ : ∃ q : Int, op = 8 * q + 3 := ⟨op / 8, by omega⟩
  have hq : 0 ≤ q ∧ q < 32 := by omega
  clear o1 o2 h
  have all : q = 0 ∨ q = 1 ∨ q = 2 ∨ q = 3 ∨ q = 4 ∨ q = 5 ∨ q = 6 ∨ q = 7 ∨ q = 8 ∨ q = 9 ∨ q = 10 ∨ q = 11 ∨ q = 12 ∨ q = 13 ∨ q = 14 ∨ q = 15 ∨ q = 16 ∨ q = 17 ∨ q = 18 ∨ q = 19 ∨ q = 20 ∨ q = 21 ∨ q = 22 ∨ q = 23 ∨ q = 24 ∨ q = 25 ∨ q = 26 ∨ q = 27 ∨ q = 28 ∨ q = 29 ∨ q = 30 ∨ q = 31 := by omega
  rcases all with rfl | rfl | rfl | rfl | rfl | rfl | rfl | rfl | rfl | rfl | rfl | rfl | rfl | rfl | rfl | rfl | rfl | rfl | rfl | rfl | rfl | rfl | rfl | rfl | rfl | rfl | rfl | rfl | rfl | rfl | rfl | rfl
  all_goals
    first
      | (refine ⟨?_, fun h => ?_⟩ <;> first | rfl | (exact absurd h Bool.false_ne_true))
      | (refine ⟨?_, ?_⟩
         · simp (config := { decide := true }) [tOk, tTold, tDouble, tLoad, tStore, tPut, tSwaps, tArith, tAlone, tBranch, tOnly, tRegs, szT, atomB, swapB, offB, secF, Wh.zero, wOk, waW, arW, arOk, arOff, ariths, inB, meW, meOk, otW, otOk, others, jumps, brW, brOk, szL, szG, szS, szP, szFrom, onlyB] <;> (try rw [Bool.eq_iff_iff]) <;> (try simp) <;> (repeat' split) <;> (try omega) <;> (try simp_all) <;> (try omega)
         · simp (config := { decide := true }) [tOk, tTold, tDouble, tLoad, tStore, tPut, tSwaps, tArith, tAlone, tBranch, tOnly, tRegs, szT, atomB, swapB, offB, secF, Wh.zero, wOk, waW, arW, arOk, arOff, ariths, inB, meW, meOk, otW, otOk, others, jumps, brW, brOk, szL, szG, szS, szP, szFrom, onlyB] <;> (try (intros; simp_all)) <;> (repeat' split) <;> (try omega) <;> (try simp_all) <;> (try omega))
set_option maxHeartbeats 16000000 in
set_option maxRecDepth 100000 in
theorem told_c4 (x : Ins) (hx : x.ok) (h : x.op % 8 = 4) : tOk x = wOk x ∧ (wOk x = true → (tTold x).1 = waW x) := by
  obtain ⟨op, dst, src, off, imm⟩ := x
  obtain ⟨⟨o1, o2⟩, ⟨d1, d2⟩, ⟨s1, s2⟩, _, i1, i2⟩ := hx
  simp only at *
  obtain ⟨q, rfl⟩ : ∃ q : Int, op = 8 * q + 4 := ⟨op / 8, by omega⟩
  have hq : 0 ≤ q ∧ q < 32 := by omega
  clear o1 o2 h
  have all : q = 0 ∨ q = 1 ∨ q = 2 ∨ q = 3 ∨ q = 4 ∨ q = 5 ∨ q = 6 ∨ q = 7 ∨ q = 8 ∨ q = 9 ∨ q = 10 ∨ q = 11 ∨ q = 12 ∨ q = 13 ∨ q = 14 ∨ q = 15 ∨ q = 16 ∨ q = 17 ∨ q = 18 ∨ q = 19 ∨ q = 20 ∨ q = 21 ∨ q = 22 ∨ q = 23 ∨ q = 24 ∨ q = 25 ∨ q = 26 ∨ q = 27 ∨ q = 28 ∨ q = 29 ∨ q = 30 ∨ q = 31 := by omega
  rcases all with rfl | rfl | rfl | rfl | rfl | rfl | rfl | rfl | rfl | rfl | rfl | rfl | rfl | rfl | rfl | rfl | rfl | rfl | rfl | rfl | rfl | rfl | rfl | rfl | rfl | rfl | rfl | rfl | rfl | rfl | rfl | rfl
  all_goals
    first
      | (refine ⟨?_, fun h => ?_⟩ <;> first | rfl | (exact absurd h Bool.false_ne_true))
      | (refine ⟨?_, ?_⟩
         · simp (config := { decide := true }) [tOk, tTold, tDouble, tLoad, tStore, tPut, tSwaps, tArith, tAlone, tBranch, tOnly, tRegs, szT, atomB, swapB, offB, secF, Wh.zero, wOk, waW, arW, arOk, arOff, ariths, inB, meW, meOk, otW, otOk, others, jumps, brW, brOk, szL, szG, szS, szP, szFrom, onlyB] <;> (try rw [Bool.eq_iff_iff]) <;> (try simp) <;> (repeat' split) <;> (try omega) <;> (try simp_all) <;> (try omega)
         · simp (config := { decide := true }) [tOk, tTold, tDouble, tLoad, tStore, tPut, tSwaps, tArith, tAlone, tBranch, tOnly, tRegs, szT, atomB, swapB, offB, secF, Wh.zero, wOk, waW, arW, arOk, arOff, ariths, inB, meW, meOk, otW, otOk, others, jumps, brW, brOk, szL, szG, szS, szP, szFrom, onlyB] <;> (try (intros; simp_all)) <;> (repeat' split) <;> (try omega) <;> (try simp_all) <;> (try omega))
set_option maxHeartbeats 16000000 in
set_option maxRecDepth 100000 in
theorem told_c5 (x : Ins) (hx : x.ok) (h : x.op % 8 = 5) : tOk x = wOk x ∧ (wOk x = true → (tTold x).1 = waW x) := by
  obtain ⟨op, dst, src, off, imm⟩ := x
  obtain ⟨⟨o1, o2⟩, ⟨d1, d2⟩, ⟨s1, s2⟩, _, i1, i2⟩ := hx
  simp only at *
  obtain ⟨q, rfl⟩ : ∃ q : Int, op = 8 * q + 5 := ⟨op / 8, by omega⟩
  have hq : 0 ≤ q ∧ q < 32 := by omega
  clear o1 o2 h
  have all : q = 0 ∨ q = 1 ∨ q = 2 ∨ q = 3 ∨ q = 4 ∨ q = 5 ∨ q = 6 ∨ q = 7 ∨ q = 8 ∨ q = 9 ∨ q = 10 ∨ q = 11 ∨ q = 12 ∨ q = 13 ∨ q = 14 ∨ q = 15 ∨ q = 16 ∨ q = 17 ∨ q = 18 ∨ q = 19 ∨ q = 20 ∨ q = 21 ∨ q = 22 ∨ q = 23 ∨ q = 24 ∨ q = 25 ∨ q = 26 ∨ q = 27 ∨ q = 28 ∨ q = 29 ∨ q = 30 ∨ q = 31 := by omega
  rcases all with rfl | rfl | rfl | rfl | rfl | rfl | rfl | rfl | rfl | rfl | rfl | rfl | rfl | rfl | rfl | rfl | rfl | rfl | rfl | rfl | rfl | rfl | rfl | rfl | rfl | rfl | rfl | rfl | rfl | rfl | rfl | rfl
  all_goals
    first
      | (refine ⟨?_, fun h => ?_⟩ <;> first | rfl | (exact absurd h Bool.false_ne_true))
      | (refine ⟨?_, ?_⟩
         · simp (config := { decide := true }) [tOk, tTold, tDouble, tLoad, tStore, tPut, tSwaps, tArith, tAlone, tBranch, tOnly, tRegs, szT, atomB, swapB, offB, secF, Wh.zero, wOk, waW, arW, arOk, arOff, ariths, inB, meW, meOk, otW, otOk, others, jumps, brW, brOk, szL, szG, szS, szP, szFrom, onlyB] <;> (try rw [Bool.eq_iff_iff]) <;> (try simp) <;> (repeat' split) <;> (try omega) <;> (try simp_all) <;> (try omega)
         · simp (config := { decide := true }) [tOk, tTold, tDouble, tLoad, tStore, tPut, tSwaps, tArith, tAlone, tBranch, tOnly, tRegs, szT, atomB, swapB, offB, secF, Wh.zero, wOk, waW, arW, arOk, arOff, ariths, inB, meW, meOk, otW, otOk, others, jumps, brW, brOk, szL, szG, szS, szP, szFrom, onlyB] <;> (try (intros; simp_all)) <;> (repeat' split) <;> (try omega) <;> (try simp_all) <;> (try omega))
set_option maxHeartbeats 16000000 in
set_option maxRecDepth 100000 in
theorem told_c6 (x : Ins) (hx : x.ok) (h : x.op % 8 = 6) : tOk x = wOk x ∧ (wOk x = true → (tTold x).1 = waW x) := by
  obtain ⟨op, dst, src, off, imm⟩ := x
  obtain ⟨⟨o1, o2⟩, ⟨d1, d2⟩, ⟨s1, s2⟩, _, i1, i2⟩ := hx
  simp only at *
  obtain ⟨q, rfl⟩ : ∃ q : Int, op = 8 * q + 6 := ⟨op / 8, by omega⟩
  have hq : 0 ≤ q ∧ q < 32 := by omega
  clear o1 o2 h
  have all : q = 0 ∨ q = 1 ∨ q = 2 ∨ q = 3 ∨ q = 4 ∨ q = 5 ∨ q = 6 ∨ q = 7 ∨ q = 8 ∨ q = 9 ∨ q = 10 ∨ q = 11 ∨ q = 12 ∨ q = 13 ∨ q = 14 ∨ q = 15 ∨ q = 16 ∨ q = 17 ∨ q = 18 ∨ q = 19 ∨ q = 20 ∨ q = 21 ∨ q = 22 ∨ q = 23 ∨ q = 24 ∨ q = 25 ∨ q = 26 ∨ q = 27 ∨ q = 28 ∨ q = 29 ∨ q = 30 ∨ q = 31 := by omega
  rcases all with rfl | rfl | rfl | rfl | rfl | rfl | rfl | rfl | rfl | rfl | rfl | rfl | rfl | rfl | rfl | rfl | rfl | rfl | rfl | rfl | rfl | rfl | rfl | rfl | rfl | rfl | rfl | rfl | rfl | rfl | rfl | rfl
  all_goals
    first
      | (refine ⟨?_, fun h => ?_⟩ <;> first | rfl | (exact absurd h Bool.false_ne_true))
      | (refine ⟨?_, ?_⟩
         · simp (config := { decide := true }) [tOk, tTold, tDouble, tLoad, tStore, tPut, tSwaps, tArith, tAlone, tBranch, tOnly, tRegs, szT, atomB, swapB, offB, secF, Wh.zero, wOk, waW, arW, arOk, arOff, ariths, inB, meW, meOk, otW, otOk, others, jumps, brW, brOk, szL, szG, szS, szP, szFrom, onlyB] <;> (try rw [Bool.eq_iff_iff]) <;> (try simp) <;> (repeat' split) <;> (try omega) <;> (try simp_all) <;> (try omega)
         · simp (config := { decide := true }) [tOk, tTold, tDouble, tLoad, tStore, tPut, tSwaps, tArith, tAlone, tBranch, tOnly, tRegs, szT, atomB, swapB, offB, secF, Wh.zero, wOk, waW, arW, arOk, arOff, ariths, inB, meW, meOk, otW, otOk, others, jumps, brW, brOk, szL, szG, szS, szP, szFrom, onlyB] <;> (try (intros; simp_all)) <;> (repeat' split) <;> (try omega) <;> (try simp_all) <;> (try omega))
set_option maxHeartbeats 16000000 in
set_option maxRecDepth 100000 in
theorem told_c7 (x : Ins) (hx : x.ok) (h : x.op % 8 = 7) : tOk x = wOk x ∧ (wOk x = true → (tTold x).1 = waW x) := by
  obtain ⟨op, dst, src, off, imm⟩ := x
  obtain ⟨⟨o1, o2⟩, ⟨d1, d2⟩, ⟨s1, s2⟩, _, i1, i2⟩ := hx
  simp only at *
  obtain ⟨q, rfl⟩ : ∃ q : Int, op = 8 * q + 7 := ⟨op / 8, by omega⟩
  have hq : 0 ≤ q ∧ q < 32 := by omega
  clear o1 o2 h
  have all : q = 0 ∨ q = 1 ∨ q = 2 ∨ q = 3 ∨ q = 4 ∨ q = 5 ∨ q = 6 ∨ q = 7 ∨ q = 8 ∨ q = 9 ∨ q = 10 ∨ q = 11 ∨ q = 12 ∨ q = 13 ∨ q = 14 ∨ q = 15 ∨ q = 16 ∨ q = 17 ∨ q = 18 ∨ q = 19 ∨ q = 20 ∨ q = 21 ∨ q = 22 ∨ q = 23 ∨ q = 24 ∨ q = 25 ∨ q = 26 ∨ q = 27 ∨ q = 28 ∨ q = 29 ∨ q = 30 ∨ q = 31 := by omega
  rcases all with rfl | rfl | rfl | rfl | rfl | rfl | rfl | rfl | rfl | rfl | rfl | rfl | rfl | rfl | rfl | rfl | rfl | rfl | rfl | rfl | rfl | rfl | rfl | rfl | rfl | rfl | rfl | rfl | rfl | rfl | rfl | rfl
  all_goals
    first
      | (refine ⟨?_, fun h => ?_⟩ <;> first | rfl | (exact absurd h Bool.false_ne_true))
      | (refine ⟨?_, ?_⟩
         · simp (config := { decide := true }) [tOk, tTold, tDouble, tLoad, tStore, tPut, tSwaps, tArith, tAlone, tBranch, tOnly, tRegs, szT, atomB, swapB, offB, secF, Wh.zero, wOk, waW, arW, arOk, arOff, ariths, inB, meW, meOk, otW, otOk, others, jumps, brW, brOk, szL, szG, szS, szP, szFrom, onlyB] <;> (try rw [Bool.eq_iff_iff]) <;> (try simp) <;> (repeat' split) <;> (try omega) <;> (try simp_all) <;> (try omega)
         · simp (config := { decide := true }) [tOk, tTold, tDouble, tLoad, tStore, tPut, tSwaps, tArith, tAlone, tBranch, tOnly, tRegs, szT, atomB, swapB, offB, secF, Wh.zero, wOk, waW, arW, arOk, arOff, ariths, inB, meW, meOk, otW, otOk, others, jumps, brW, brOk, szL, szG, szS, szP, szFrom, onlyB] <;> (try (intros; simp_all)) <;> (repeat' split) <;> (try omega) <;> (try simp_all) <;> (try omega))

theorem told_same (x : Ins) (hx : x.ok) : tOk x = wOk x ∧ (wOk x = true → (tTold x).1 = waW x) := by
  have h : x.op % 8 = 0 ∨ x.op % 8 = 1 ∨ x.op % 8 = 2 ∨ x.op % 8 = 3 ∨ x.op % 8 = 4 ∨ x.op % 8 = 5 ∨ x.op % 8 = 6 ∨ x.op % 8 = 7 := by omega
  rcases h with h | h | h | h | h | h | h | h
  · exact told_c0 x hx h
  · exact told_c1 x hx h
  · exact told_c2 x hx h
  · exact told_c3 x hx h
  · exact told_c4 x hx h
  · exact told_c5 x hx h
  · exact told_c6 x hx h
  · exact told_c7 x hx h

end Go.Proofs.Ytplndcjmbgkcjaa
