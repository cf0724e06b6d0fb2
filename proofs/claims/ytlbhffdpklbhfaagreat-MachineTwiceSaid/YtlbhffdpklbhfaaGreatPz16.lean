/-
  Texts, one behind the other: WhBox, Ref07a, CodeTold, Code1.
  Conditions: those that each theorem states.
-/
import Derived.Test.YtlbhffdpklbhfaaGreatPz14
import Derived.LoopTactic
import Derived.Test.YtlbhffdpklbhfaaGreatPz2
import Derived.Laws.BitsAllLaws
namespace Go.Proofs.YtlbhffdpklbhfaaGreat
open Go.RowKit
set_option linter.unusedVariables false
abbrev whCells (v : Wh) : Array Value := #[.int .u8 v.kind, .int .u8 v.op, .bool v.wide, .bool v.reg, .bool v.signed, .int .i64 v.size]
def whB (g : Nat) (v : Wh) (w : World) : Prop := Blk g (whCells v) 96 w
theorem whB.lt {g : Nat} {v : Wh} {w : World} (h : whB g v w) : g < w.heap.size := Blk.lt h
theorem whB.new (w : World) (v : Wh) {g : Nat} (hg : g = w.heap.size) : whB g v (w.alloc (.cells (whCells v) 96)) := Blk.new w _ _ hg
theorem whB.after {g : Nat} {v : Wh} {w w' : World} (h : whB g v w) (b : Below w.heap.size w w') : whB g v w' := Blk.after h b
theorem iB.alloc {g : Nat} {x : Ins} {w : World} (h : iB g x w) (o : Obj) : iB g x (w.alloc o) := h.after (below_alloc (Below.refl _ _) o)
theorem whB.cells {g : Nat} {v : Wh} {w : World} (h : whB g v w) : w.cell? ⟨g, 0, none⟩ = some (.int .u8 v.kind) ∧ w.cell? ⟨g, 1, none⟩ = some (.int .u8 v.op) ∧ w.cell? ⟨g, 2, none⟩ = some (.bool v.wide) ∧ w.cell? ⟨g, 3, none⟩ = some (.bool v.reg) ∧ w.cell? ⟨g, 4, none⟩ = some (.bool v.signed) ∧ w.cell? ⟨g, 5, none⟩ = some (.int .i64 v.size) :=
  ⟨Blk.cell h 0, Blk.cell h 1, Blk.cell h 2, Blk.cell h 3, Blk.cell h 4, Blk.cell h 5⟩
theorem whB.free {g : Nat} {v : Wh} {w : World} (h : whB g v w) : w.frozen? ⟨g, 0, none⟩ = false ∧ w.frozen? ⟨g, 1, none⟩ = false ∧ w.frozen? ⟨g, 2, none⟩ = false ∧ w.frozen? ⟨g, 3, none⟩ = false ∧ w.frozen? ⟨g, 4, none⟩ = false ∧ w.frozen? ⟨g, 5, none⟩ = false :=
  ⟨Blk.free h 0, Blk.free h 1, Blk.free h 2, Blk.free h 3, Blk.free h 4, Blk.free h 5⟩
abbrev whSet (w : World) (g : Nat) (u : Wh) : World := (((((w.setCell ⟨g, 0, none⟩ (.int .u8 u.kind)).setCell ⟨g, 1, none⟩ (.int .u8 u.op)).setCell ⟨g, 2, none⟩ (.bool u.wide)).setCell ⟨g, 3, none⟩ (.bool u.reg)).setCell ⟨g, 4, none⟩ (.bool u.signed)).setCell ⟨g, 5, none⟩ (.int .i64 u.size)
theorem whB.set {g : Nat} {v : Wh} {w : World} (h : whB g v w) (u : Wh) : whB g u (whSet w g u) :=
  Blk.set (Blk.set (Blk.set (Blk.set (Blk.set (Blk.set h 0 _) 1 _) 2 _) 3 _) 4 _) 5 _
theorem Blk.whs {g k : Nat} {cs : Array Value} {t : TypeId} {w : World} (h : Blk g cs t w) (u : Wh) (hk : g ≠ k) : Blk g cs t (whSet w k u) :=
  Blk.other (Blk.other (Blk.other (Blk.other (Blk.other (Blk.other h _ hk) _ hk) _ hk) _ hk) _ hk) _ hk
theorem whB.whs {g k : Nat} {v : Wh} {w : World} (h : whB g v w) (u : Wh) (hk : g ≠ k) : whB g v (whSet w k u) := Blk.whs h u hk
theorem iB.whs {g k : Nat} {x : Ins} {w : World} (h : iB g x w) (u : Wh) (hk : g ≠ k) : iB g x (whSet w k u) := Blk.whs h u hk
theorem below_whs {B k : Nat} {w u : World} (h : Below B w u) (hk : B ≤ k) (v : Wh) : Below B w (whSet u k v) :=
  (((((h.setCell (p := ⟨k, 0, none⟩) hk _).setCell (p := ⟨k, 1, none⟩) hk _).setCell (p := ⟨k, 2, none⟩) hk _).setCell (p := ⟨k, 3, none⟩) hk _).setCell (p := ⟨k, 4, none⟩) hk _).setCell (p := ⟨k, 5, none⟩) hk _
def ITri (x : Ins) (v u : Wh) (w w' : World) : Prop := Below w.heap.size w w' ∧ iB w.heap.size x w' ∧ whB (w.heap.size + 1) v w' ∧ whB (w.heap.size + 2) u w'
theorem ITri.set {x : Ins} {v u : Wh} {w w1 : World} (h : ITri x v u w w1) (y : Wh) : ITri x y u w (whSet w1 (w.heap.size + 1) y) :=
  ⟨below_whs h.1 (by omega) y, h.2.1.whs y (by omega), h.2.2.1.set y, h.2.2.2.whs y (by omega)⟩
def IDuo (x : Ins) (v : Wh) (w w' : World) : Prop := Below w.heap.size w w' ∧ iB w.heap.size x w' ∧ whB (w.heap.size + 1) v w'
theorem IDuo.new (x : Ins) (v : Wh) (w : World) : IDuo x v w ((w.alloc (.cells (insCells x) 63)).alloc (.cells (whCells v) 96)) :=
  ⟨below_alloc (below_alloc (Below.refl _ _) _) _, (iB.new w x rfl).alloc _, whB.new _ v (by simp)⟩
theorem IDuo.after {x : Ins} {v : Wh} {w w1 w2 : World} (h : IDuo x v w w1) (b : Below w1.heap.size w1 w2) : IDuo x v w w2 := ⟨below_next' h.1 b, h.2.1.after b, h.2.2.after b⟩
theorem IDuo.set {x : Ins} {v : Wh} {w w1 : World} (h : IDuo x v w w1) (y : Wh) : IDuo x y w (whSet w1 (w.heap.size + 1) y) :=
  ⟨below_whs h.1 (by omega) y, h.2.1.whs y (by omega), h.2.2.set y⟩
theorem or_ways (s a : Bool) : s = true ∨ (s = false ∧ a = true) ∨ (s = false ∧ a = false) := by cases s <;> cases a <;> simp
end Go.Proofs.YtlbhffdpklbhfaaGreat
namespace Go.Proofs.YtlbhffdpklbhfaaGreat
open Go Go.RowKit
set_option linter.unusedVariables false
set_option linter.unusedSimpArgs false
def szT (op : Int) : Int := if op / 8 % 4 = 0 then 4 else if op / 8 % 4 = 1 then 2 else if op / 8 % 4 = 2 then 1 else 8
def tDouble (x : Ins) : Wh × Int :=
  if x.op == 24 then (if x.src == 0 then (⟨3, 0, true, false, false, 0⟩, 17) else if x.src == 1 && decide (0 ≤ x.imm) then (⟨4, 0, true, false, false, 0⟩, 21) else (Wh.zero, 0)) else (Wh.zero, 0)
def tLoad (x : Ins) : Wh × Int :=
  if x.op / 32 * 32 == 96 || (x.op / 32 * 32 == 128 && decide (szT x.op < 8)) then (⟨5, 0, false, false, x.op / 32 * 32 == 128, szT x.op⟩, 13) else (Wh.zero, 0)
def tStore (x : Ins) : Wh × Int :=
  if x.op / 32 * 32 == 96 then (⟨6, 0, false, false, false, szT x.op⟩, 26) else (Wh.zero, 0)
def atomB (n : Int) : Bool := n == 0 || n == 64 || n == 80 || n == 160
def tPutI (x : Ins) : Wh × Int :=
  if x.op / 32 * 32 == 96 then (⟨7, 0, false, true, false, szT x.op⟩, 14)
  else if x.op / 32 * 32 == 192 && decide (4 ≤ szT x.op) && atomB x.imm then (⟨8, x.imm % 256, false, true, false, szT x.op⟩, 30) else (Wh.zero, 0)
def swapB (n : Int) : Bool := n == 212 || n == 215 || n == 220
def tSwaps (x : Ins) : Wh × Int :=
  if !swapB x.op || (x.imm != 16 && x.imm != 32 && x.imm != 64) then (Wh.zero, 0) else (⟨2, 0, x.op != 212, false, false, x.imm.tdiv 8⟩, 17)
def offB (o : Int) (wide reg : Bool) (off : Int) : Bool :=
  if off == 0 then true else if o == 48 || o == 144 then off == 1 else if o == 176 && reg then off == 8 || off == 16 || (off == 32 && wide) else false
def secF (x : Ins) : Int := if x.op / 8 % 2 == 1 then 4 else 16
def tArith (x : Ins) : Wh × Int :=
  if !offB (x.op / 16 * 16) (x.op % 8 == 7) (x.op / 8 % 2 == 1) x.off then (Wh.zero, 0)
  else if x.op / 16 * 16 != 128 then (arW x, 9 + secF x)
  else if x.op / 8 % 2 == 1 then (Wh.zero, 0) else (arW x, 1)
def tAlone (x : Ins) : Wh × Int :=
  if x.op == 5 then (⟨9, 0, false, false, false, 0⟩, 8) else if x.op == 6 then (⟨9, 0, false, false, false, 0⟩, 16)
  else if x.op == 133 then (⟨11, 0, false, false, false, 0⟩, 16) else if x.op == 149 then (⟨12, 0, false, false, false, 0⟩, 0) else (Wh.zero, 0)
def tBranch (x : Ins) : Wh × Int :=
  if inB [16, 80, 64, 32, 48, 160, 176, 96, 112, 192, 208] (x.op / 16 * 16) then (brW x, 10 + secF x) else (Wh.zero, 0)
def tTold (x : Ins) : Wh × Int :=
  if x.op % 8 == 0 then tDouble x
  else if x.op % 8 == 1 then tLoad x
  else if x.op % 8 == 2 then tStore x
  else if x.op % 8 == 3 then tPutI x
  else if x.op % 8 == 4 || x.op % 8 == 7 then (if decide (192 < x.op / 16 * 16) then tSwaps x else tArith x)
  else if (tAlone x).1.kind != 0 then tAlone x else tBranch x
def tOnly (x : Ins) (f : Int) : Bool := (x.dst == 0 || f % 4 != 0) && ((x.src == 0 || f / 4 % 2 * 4 != 0) && ((x.off == 0 || f / 8 % 2 * 8 != 0) && (x.imm == 0 || f / 16 % 2 * 16 != 0)))
def tRegs (x : Ins) (f : Int) : Bool := decide (x.dst ≤ 10) && (decide (x.src ≤ 10) && (x.dst != 10 || f % 2 == 0))
def tOk (x : Ins) : Bool := (tTold x).1.kind != 0 && (tOnly x (tTold x).2 && tRegs x (tTold x).2)
set_option maxHeartbeats 16000000 in
set_option maxRecDepth 100000 in
theorem told_c0 (x : Ins) (hx : x.ok) (h : x.op % 8 = 0) : tOk x = wOk x ∧ (wOk x = true → (tTold x).1 = waW x) := by
  obtain ⟨op, dst, src, off, imm⟩ := x
  obtain ⟨⟨o1, o2⟩, ⟨d1, d2⟩, ⟨s1, s2⟩, _, i1, i2⟩ := hx
  simp only at *
  obtain ⟨q, rfl⟩ : ∃ q : Int, op = 8 * q + 0 := ⟨op / 8, by omega⟩
  have hq : 0 ≤ q ∧ q < 32 := by omega
  clear o1 o2 h
  have all : q = 0 ∨ q = 1 ∨ q = 2 ∨ q = 3 ∨ q = 4 ∨ q = 5 ∨ q = 6 ∨ q = 7 ∨ q = 8 ∨ q = 9 ∨ q = 10 ∨ q = 11 ∨ q = 12 ∨ q = 13 ∨ q = 14 ∨ q = 15 ∨ q = 16 ∨ q = 17 ∨ q = 18 ∨ q = 19 ∨ q = 20 ∨ q = 21 ∨ q = 22 ∨ q = 23 ∨ q = 24 ∨ q = 25 ∨ q = 26 ∨ q = 27 ∨ q = 28 ∨ q = 29 ∨ q = 30 ∨ q = 31 := by omega
  rcases all with rfl | rfl | rfl | rfl | rfl | rfl | rfl | rfl | rfl | rfl | rfl | rfl | rfl | rfl | rfl | rfl | rfl | rfl | rfl | rfl | rfl | rfl | rfl | rfl | rfl | rfl | rfl | rfl | rfl | rfl | rfl | rfl
  all_goals
    first
      | (refine ⟨?_, fun h => ?_⟩ <;> first | rfl | (exact absurd h Bool.false_ne_true))
      | (refine ⟨?_, ?_⟩
         · simp (config := { decide := true }) [tOk, tTold, tDouble, tLoad, tStore, tPutI, tSwaps, tArith, tAlone, tBranch, tOnly, tRegs, szT, atomB, swapB, offB, secF, Wh.zero, wOk, waW, arW, arOk, arOff, ariths, inB, meW, meOk, otW, otOk, others, jumps, brW, brOk, szL, szG, szS, szP, szFrom, onlyB] <;> (try rw [Bool.eq_iff_iff]) <;> (try simp) <;> (repeat' split) <;> (try omega) <;> (try simp_all) <;> (try omega)
         · simp (config := { decide := true }) [tOk, tTold, tDouble, tLoad, tStore, tPutI, tSwaps, tArith, tAlone, tBranch, tOnly, tRegs, szT, atomB, swapB, offB, secF, Wh.zero, wOk, waW, arW, arOk, arOff, ariths, inB, meW, meOk, otW, otOk, others, jumps, brW, brOk, szL, szG, szS, szP, szFrom, onlyB] <;> (try (intros; simp_all)) <;> (repeat' split) <;> (try omega) <;> (try simp_all) <;> (try omega))
set_option maxHeartbeats 16000000 in
set_option maxRecDepth 100000 in
theorem told_c1 (x : Ins) (hx : x.ok) (h : x.op % 8 = 1) : tOk x = wOk x ∧ (wOk x = true → (tTold x).1 = waW x) := by
  obtain ⟨op, dst, src, off, imm⟩ := x
  obtain ⟨⟨o1, o2⟩, ⟨d1, d2⟩, ⟨s1, s2⟩, _, i1, i2⟩ := hx
  simp only at *
  obtain ⟨q, rfl⟩ : ∃ q : Int, op = 8 * q + 1 := ⟨op / 8, by omega⟩
  have hq : 0 ≤ q ∧ q < 32 := by omega
  clear o1 o2 h
  have all : q = 0 ∨ q = 1 ∨ q = 2 ∨ q = 3 ∨ q = 4 ∨ q = 5 ∨ q = 6 ∨ q = 7 ∨ q = 8 ∨ q = 9 ∨ q = 10 ∨ q = 11 ∨ q = 12 ∨ q = 13 ∨ q = 14 ∨ q = 15 ∨ q = 16 ∨ q = 17 ∨ q = 18 ∨ q = 19 ∨ q = 20 ∨ q = 21 ∨ q = 22 ∨ q = 23 ∨ q = 24 ∨ q = 25 ∨ q = 26 ∨ q = 27 ∨ q = 28 ∨ q = 29 ∨ q = 30 ∨ q = 31 := by omega
  rcases all with rfl | rfl | rfl | rfl | rfl | rfl | rfl | rfl | rfl | rfl | rfl | rfl | rfl | rfl | rfl | rfl | rfl | rfl | rfl | rfl | rfl | rfl | rfl | rfl | rfl | rfl | rfl | rfl | rfl | rfl | rfl | rfl
  all_goals
    first
      | (refine ⟨?_, fun h => ?_⟩ <;> first | rfl | (exact absurd h Bool.false_ne_true))
      | (refine ⟨?_, ?_⟩
         · simp (config := { decide := true }) [tOk, tTold, tDouble, tLoad, tStore, tPutI, tSwaps, tArith, tAlone, tBranch, tOnly, tRegs, szT, atomB, swapB, offB, secF, Wh.zero, wOk, waW, arW, arOk, arOff, ariths, inB, meW, meOk, otW, otOk, others, jumps, brW, brOk, szL, szG, szS, szP, szFrom, onlyB] <;> (try rw [Bool.eq_iff_iff]) <;> (try simp) <;> (repeat' split) <;> (try omega) <;> (try simp_all) <;> (try omega)
         · simp (config := { decide := true }) [tOk, tTold, tDouble, tLoad, tStore, tPutI, tSwaps, tArith, tAlone, tBranch, tOnly, tRegs, szT, atomB, swapB, offB, secF, Wh.zero, wOk, waW, arW, arOk, arOff, ariths, inB, meW, meOk, otW, otOk, others, jumps, brW, brOk, szL, szG, szS, szP, szFrom, onlyB] <;> (try (intros; simp_all)) <;> (repeat' split) <;> (try omega) <;> (try simp_all) <;> (try omega))
set_option maxHeartbeats 16000000 in
set_option maxRecDepth 100000 in
theorem told_c2 (x : Ins) (hx : x.ok) (h : x.op % 8 = 2) : tOk x = wOk x ∧ (wOk x = true → (tTold x).1 = waW x) := by
  obtain ⟨op, dst, src, off, imm⟩ := x
  obtain ⟨⟨o1, o2⟩, ⟨d1, d2⟩, ⟨s1, s2⟩, _, i1, i2⟩ := hx
  simp only at *
  obtain ⟨q, rfl⟩ : ∃ q : Int, op = 8 * q + 2 := ⟨op / 8, by omega⟩
  have hq : 0 ≤ q ∧ q < 32 := by omega
  clear o1 o2 h
  have all : q = 0 ∨ q = 1 ∨ q = 2 ∨ q = 3 ∨ q = 4 ∨ q = 5 ∨ q = 6 ∨ q = 7 ∨ q = 8 ∨ q = 9 ∨ q = 10 ∨ q = 11 ∨ q = 12 ∨ q = 13 ∨ q = 14 ∨ q = 15 ∨ q = 16 ∨ q = 17 ∨ q = 18 ∨ q = 19 ∨ q = 20 ∨ q = 21 ∨ q = 22 ∨ q = 23 ∨ q = 24 ∨ q = 25 ∨ q = 26 ∨ q = 27 ∨ q = 28 ∨ q = 29 ∨ q = 30 ∨ q = 31 := by omega
  rcases all with rfl | rfl | rfl | rfl | rfl | rfl | rfl | rfl | rfl | rfl | rfl | rfl | rfl | rfl | rfl | rfl | rfl | rfl | rfl | rfl | rfl | rfl | rfl | rfl | rfl | rfl | rfl | rfl | rfl | rfl | rfl | rfl
  all_goals
    first
      | (refine ⟨?_, fun h => ?_⟩ <;> first | rfl | (exact absurd h Bool.false_ne_true))
      | (refine ⟨?_, ?_⟩
         · simp (config := { decide := true }) [tOk, tTold, tDouble, tLoad, tStore, tPutI, tSwaps, tArith, tAlone, tBranch, tOnly, tRegs, szT, atomB, swapB, offB, secF, Wh.zero, wOk, waW, arW, arOk, arOff, ariths, inB, meW, meOk, otW, otOk, others, jumps, brW, brOk, szL, szG, szS, szP, szFrom, onlyB] <;> (try rw [Bool.eq_iff_iff]) <;> (try simp) <;> (repeat' split) <;> (try omega) <;> (try simp_all) <;> (try omega)
         · simp (config := { decide := true }) [tOk, tTold, tDouble, tLoad, tStore, tPutI, tSwaps, tArith, tAlone, tBranch, tOnly, tRegs, szT, atomB, swapB, offB, secF, Wh.zero, wOk, waW, arW, arOk, arOff, ariths, inB, meW, meOk, otW, otOk, others, jumps, brW, brOk, szL, szG, szS, szP, szFrom, onlyB] <;> (try (intros; simp_all)) <;> (repeat' split) <;> (try omega) <;> (try simp_all) <;> (try omega))
set_option maxHeartbeats 16000000 in
set_option maxRecDepth 100000 in
theorem told_c3 (x : Ins) (hx : x.ok) (h : x.op % 8 = 3) : tOk x = wOk x ∧ (wOk x = true → (tTold x).1 = waW x) := by
  obtain ⟨op, dst, src, off, imm⟩ := x
  obtain ⟨⟨o1, o2⟩, ⟨d1, d2⟩, ⟨s1, s2⟩, _, i1, i2⟩ := hx
  simp only at *
  obtain ⟨q, rfl⟩ : ∃ q : Int, op = 8 * q + 3 := ⟨op / 8, by omega⟩
  have hq : 0 ≤ q ∧ q < 32 := by omega
  clear o1 o2 h
  have all : q = 0 ∨ q = 1 ∨ q = 2 ∨ q = 3 ∨ q = 4 ∨ q = 5 ∨ q = 6 ∨ q = 7 ∨ q = 8 ∨ q = 9 ∨ q = 10 ∨ q = 11 ∨ q = 12 ∨ q = 13 ∨ q = 14 ∨ q = 15 ∨ q = 16 ∨ q = 17 ∨ q = 18 ∨ q = 19 ∨ q = 20 ∨ q = 21 ∨ q = 22 ∨ q = 23 ∨ q = 24 ∨ q = 25 ∨ q = 26 ∨ q = 27 ∨ q = 28 ∨ q = 29 ∨ q = 30 ∨ q = 31 := by omega
  rcases all with rfl | rfl | rfl | rfl | rfl | rfl | rfl | rfl | rfl | rfl | rfl | rfl | rfl | rfl | rfl | rfl | rfl | rfl | rfl | rfl | rfl | rfl | rfl | rfl | rfl | rfl | rfl | rfl | rfl | rfl | rfl | rfl
  all_goals
    first
      | (refine ⟨?_, fun h => ?_⟩ <;> first | rfl | (exact absurd h Bool.false_ne_true))
      | (refine ⟨?_, ?_⟩
         · simp (config := { decide := true }) [tOk, tTold, tDouble, tLoad, tStore, tPutI, tSwaps, tArith, tAlone, tBranch, tOnly, tRegs, szT, atomB, swapB, offB, secF, Wh.zero, wOk, waW, arW, arOk, arOff, ariths, inB, meW, meOk, otW, otOk, others, jumps, brW, brOk, szL, szG, szS, szP, szFrom, onlyB] <;> (try rw [Bool.eq_iff_iff]) <;> (try simp) <;> (repeat' split) <;> (try omega) <;> (try simp_all) <;> (try omega)
         · simp (config := { decide := true }) [tOk, tTold, tDouble, tLoad, tStore, tPutI, tSwaps, tArith, tAlone, tBranch, tOnly, tRegs, szT, atomB, swapB, offB, secF, Wh.zero, wOk, waW, arW, arOk, arOff, ariths, inB, meW, meOk, otW, otOk, others, jumps, brW, brOk, szL, szG, szS, szP, szFrom, onlyB] <;> (try (intros; simp_all)) <;> (repeat' split) <;> (try omega) <;> (try simp_all) <;> (try omega))
set_option maxHeartbeats 16000000 in
set_option maxRecDepth 100000 in
theorem told_c4 (x : Ins) (hx : x.ok) (h : x.op % 8 = 4) : tOk x = wOk x ∧ (wOk x = true → (tTold x).1 = waW x) := by
  obtain ⟨op, dst, src, off, imm⟩ := x
  obtain ⟨⟨o1, o2⟩, ⟨d1, d2⟩, ⟨s1, s2⟩, _, i1, i2⟩ := hx
  simp only at *
  obtain ⟨q, rfl⟩ : ∃ q : Int, op = 8 * q + 4 := ⟨op / 8, by omega⟩
  have hq : 0 ≤ q ∧ q < 32 := by omega
  clear o1 o2 h
  have all : q = 0 ∨ q = 1 ∨ q = 2 ∨ q = 3 ∨ q = 4 ∨ q = 5 ∨ q = 6 ∨ q = 7 ∨ q = 8 ∨ q = 9 ∨ q = 10 ∨ q = 11 ∨ q = 12 ∨ q = 13 ∨ q = 14 ∨ q = 15 ∨ q = 16 ∨ q = 17 ∨ q = 18 ∨ q = 19 ∨ q = 20 ∨ q = 21 ∨ q = 22 ∨ q = 23 ∨ q = 24 ∨ q = 25 ∨ q = 26 ∨ q = 27 ∨ q = 28 ∨ q = 29 ∨ q = 30 ∨ q = 31 := by omega
  rcases all with rfl | rfl | rfl | rfl | rfl | rfl | rfl | rfl | rfl | rfl | rfl | rfl | rfl | rfl | rfl | rfl | rfl | rfl | rfl | rfl | rfl | rfl | rfl | rfl | rfl | rfl | rfl | rfl | rfl | rfl | rfl | rfl
  all_goals
    first
      | (refine ⟨?_, fun h => ?_⟩ <;> first | rfl | (exact absurd h Bool.false_ne_true))
      | (refine ⟨?_, ?_⟩
         · simp (config := { decide := true }) [tOk, tTold, tDouble, tLoad, tStore, tPutI, tSwaps, tArith, tAlone, tBranch, tOnly, tRegs, szT, atomB, swapB, offB, secF, Wh.zero, wOk, waW, arW, arOk, arOff, ariths, inB, meW, meOk, otW, otOk, others, jumps, brW, brOk, szL, szG, szS, szP, szFrom, onlyB] <;> (try rw [Bool.eq_iff_iff]) <;> (try simp) <;> (repeat' split) <;> (try omega) <;> (try simp_all) <;> (try omega)
         · simp (config := { decide := true }) [tOk, tTold, tDouble, tLoad, tStore, tPutI, tSwaps, tArith, tAlone, tBranch, tOnly, tRegs, szT, atomB, swapB, offB, secF, Wh.zero, wOk, waW, arW, arOk, arOff, ariths, inB, meW, meOk, otW, otOk, others, jumps, brW, brOk, szL, szG, szS, szP, szFrom, onlyB] <;> (try (intros; simp_all)) <;> (repeat' split) <;> (try omega) <;> (try simp_all) <;> (try omega))
set_option maxHeartbeats 16000000 in
set_option maxRecDepth 100000 in
theorem told_c5 (x : Ins) (hx : x.ok) (h : x.op % 8 = 5) : tOk x = wOk x ∧ (wOk x = true → (tTold x).1 = waW x) := by
  obtain ⟨op, dst, src, off, imm⟩ := x
  obtain ⟨⟨o1, o2⟩, ⟨d1, d2⟩, ⟨s1, s2⟩, _, i1, i2⟩ := hx
  simp only at *
  obtain ⟨q, rfl⟩ : ∃ q : Int, op = 8 * q + 5 := ⟨op / 8, by omega⟩
  have hq : 0 ≤ q ∧ q < 32 := by omega
  clear o1 o2 h
  have all : q = 0 ∨ q = 1 ∨ q = 2 ∨ q = 3 ∨ q = 4 ∨ q = 5 ∨ q = 6 ∨ q = 7 ∨ q = 8 ∨ q = 9 ∨ q = 10 ∨ q = 11 ∨ q = 12 ∨ q = 13 ∨ q = 14 ∨ q = 15 ∨ q = 16 ∨ q = 17 ∨ q = 18 ∨ q = 19 ∨ q = 20 ∨ q = 21 ∨ q = 22 ∨ q = 23 ∨ q = 24 ∨ q = 25 ∨ q = 26 ∨ q = 27 ∨ q = 28 ∨ q = 29 ∨ q = 30 ∨ q = 31 := by omega
  rcases all with rfl | rfl | rfl | rfl | rfl | rfl | rfl | rfl | rfl | rfl | rfl | rfl | rfl | rfl | rfl | rfl | rfl | rfl | rfl | rfl | rfl | rfl | rfl | rfl | rfl | rfl | rfl | rfl | rfl | rfl | rfl | rfl
  all_goals
    first
      | (refine ⟨?_, fun h => ?_⟩ <;> first | rfl | (exact absurd h Bool.false_ne_true))
      | (refine ⟨?_, ?_⟩
         · simp (config := { decide := true }) [tOk, tTold, tDouble, tLoad, tStore, tPutI, tSwaps, tArith, tAlone, tBranch, tOnly, tRegs, szT, atomB, swapB, offB, secF, Wh.zero, wOk, waW, arW, arOk, arOff, ariths, inB, meW, meOk, otW, otOk, others, jumps, brW, brOk, szL, szG, szS, szP, szFrom, onlyB] <;> (try rw [Bool.eq_iff_iff]) <;> (try simp) <;> (repeat' split) <;> (try omega) <;> (try simp_all) <;> (try omega)
         · simp (config := { decide := true }) [tOk, tTold, tDouble, tLoad, tStore, tPutI, tSwaps, tArith, tAlone, tBranch, tOnly, tRegs, szT, atomB, swapB, offB, secF, Wh.zero, wOk, waW, arW, arOk, arOff, ariths, inB, meW, meOk, otW, otOk, others, jumps, brW, brOk, szL, szG, szS, szP, szFrom, onlyB] <;> (try (intros; simp_all)) <;> (repeat' split) <;> (try omega) <;> (try simp_all) <;> (try omega))
set_option maxHeartbeats 16000000 in
set_option maxRecDepth 100000 in
theorem told_c6 (x : Ins) (hx : x.ok) (h : x.op % 8 = 6) : tOk x = wOk x ∧ (wOk x = true → (tTold x).1 = waW x) := by
  obtain ⟨op, dst, src, off, imm⟩ := x
  obtain ⟨⟨o1, o2⟩, ⟨d1, d2⟩, ⟨s1, s2⟩, _, i1, i2⟩ := hx
  simp only at *
  obtain ⟨q, rfl⟩ : ∃ q : Int, op = 8 * q + 6 := ⟨op / 8, by omega⟩
  have hq : 0 ≤ q ∧ q < 32 := by omega
  clear o1 o2 h
  have all : q = 0 ∨ q = 1 ∨ q = 2 ∨ q = 3 ∨ q = 4 ∨ q = 5 ∨ q = 6 ∨ q = 7 ∨ q = 8 ∨ q = 9 ∨ q = 10 ∨ q = 11 ∨ q = 12 ∨ q = 13 ∨ q = 14 ∨ q = 15 ∨ q = 16 ∨ q = 17 ∨ q = 18 ∨ q = 19 ∨ q = 20 ∨ q = 21 ∨ q = 22 ∨ q = 23 ∨ q = 24 ∨ q = 25 ∨ q = 26 ∨ q = 27 ∨ q = 28 ∨ q = 29 ∨ q = 30 ∨ q = 31 := by omega
  rcases all with rfl | rfl | rfl | rfl | rfl | rfl | rfl | rfl | rfl | rfl | rfl | rfl | rfl | rfl | rfl | rfl | rfl | rfl | rfl | rfl | rfl | rfl | rfl | rfl | rfl | rfl | rfl | rfl | rfl | rfl | rfl | rfl
  all_goals
    first
      | (refine ⟨?_, fun h => ?_⟩ <;> first | rfl | (exact absurd h Bool.false_ne_true))
      | (refine ⟨?_, ?_⟩
         · simp (config := { decide := true }) [tOk, tTold, tDouble, tLoad, tStore, tPutI, tSwaps, tArith, tAlone, tBranch, tOnly, tRegs, szT, atomB, swapB, offB, secF, Wh.zero, wOk, waW, arW, arOk, arOff, ariths, inB, meW, meOk, otW, otOk, others, jumps, brW, brOk, szL, szG, szS, szP, szFrom, onlyB] <;> (try rw [Bool.eq_iff_iff]) <;> (try simp) <;> (repeat' split) <;> (try omega) <;> (try simp_all) <;> (try omega)
         · simp (config := { decide := true }) [tOk, tTold, tDouble, tLoad, tStore, tPutI, tSwaps, tArith, tAlone, tBranch, tOnly, tRegs, szT, atomB, swapB, offB, secF, Wh.zero, wOk, waW, arW, arOk, arOff, ariths, inB, meW, meOk, otW, otOk, others, jumps, brW, brOk, szL, szG, szS, szP, szFrom, onlyB] <;> (try (intros; simp_all)) <;> (repeat' split) <;> (try omega) <;> (try simp_all) <;> (try omega))
set_option maxHeartbeats 16000000 in
set_option maxRecDepth 100000 in
theorem told_c7 (x : Ins) (hx : x.ok) (h : x.op % 8 = 7) : tOk x = wOk x ∧ (wOk x = true → (tTold x).1 = waW x) := by
  obtain ⟨op, dst, src, off, imm⟩ := x
  obtain ⟨⟨o1, o2⟩, ⟨d1, d2⟩, ⟨s1, s2⟩, _, i1, i2⟩ := hx
  simp only at *
  obtain ⟨q, rfl⟩ : ∃ q : Int, op = 8 * q + 7 := ⟨op / 8, by omega⟩
  have hq : 0 ≤ q ∧ q < 32 := by omega
  clear o1 o2 h
  have all : q = 0 ∨ q = 1 ∨ q = 2 ∨ q = 3 ∨ q = 4 ∨ q = 5 ∨ q = 6 ∨ q = 7 ∨ q = 8 ∨ q = 9 ∨ q = 10 ∨ q = 11 ∨ q = 12 ∨ q = 13 ∨ q = 14 ∨ q = 15 ∨ q = 16 ∨ q = 17 ∨ q = 18 ∨ q = 19 ∨ q = 20 ∨ q = 21 ∨ q = 22 ∨ q = 23 ∨ q = 24 ∨ q = 25 ∨ q = 26 ∨ q = 27 ∨ q = 28 ∨ q = 29 ∨ q = 30 ∨ q = 31 := by omega
  rcases all with rfl | rfl | rfl | rfl | rfl | rfl | rfl | rfl | rfl | rfl | rfl | rfl | rfl | rfl | rfl | rfl | rfl | rfl | rfl | rfl | rfl | rfl | rfl | rfl | rfl | rfl | rfl | rfl | rfl | rfl | rfl | rfl
  all_goals
    first
      | (refine ⟨?_, fun h => ?_⟩ <;> first | rfl | (exact absurd h Bool.false_ne_true))
      | (refine ⟨?_, ?_⟩
         · simp (config := { decide := true }) [tOk, tTold, tDouble, tLoad, tStore, tPutI, tSwaps, tArith, tAlone, tBranch, tOnly, tRegs, szT, atomB, swapB, offB, secF, Wh.zero, wOk, waW, arW, arOk, arOff, ariths, inB, meW, meOk, otW, otOk, others, jumps, brW, brOk, szL, szG, szS, szP, szFrom, onlyB] <;> (try rw [Bool.eq_iff_iff]) <;> (try simp) <;> (repeat' split) <;> (try omega) <;> (try simp_all) <;> (try omega)
         · simp (config := { decide := true }) [tOk, tTold, tDouble, tLoad, tStore, tPutI, tSwaps, tArith, tAlone, tBranch, tOnly, tRegs, szT, atomB, swapB, offB, secF, Wh.zero, wOk, waW, arW, arOk, arOff, ariths, inB, meW, meOk, otW, otOk, others, jumps, brW, brOk, szL, szG, szS, szP, szFrom, onlyB] <;> (try (intros; simp_all)) <;> (repeat' split) <;> (try omega) <;> (try simp_all) <;> (try omega))
theorem told_same (x : Ins) (hx : x.ok) : tOk x = wOk x ∧ (wOk x = true → (tTold x).1 = waW x) := by
  have h : x.op % 8 = 0 ∨ x.op % 8 = 1 ∨ x.op % 8 = 2 ∨ x.op % 8 = 3 ∨ x.op % 8 = 4 ∨ x.op % 8 = 5 ∨ x.op % 8 = 6 ∨ x.op % 8 = 7 := by omega
  rcases h with h | h | h | h | h | h | h | h
  · exact told_c0 x hx h
  · exact told_c1 x hx h
  · exact told_c2 x hx h
  · exact told_c3 x hx h
  · exact told_c4 x hx h
  · exact told_c5 x hx h
  · exact told_c6 x hx h
  · exact told_c7 x hx h
end Go.Proofs.YtlbhffdpklbhfaaGreat
namespace Go.Proofs.YtlbhffdpklbhfaaGreat
open Go.RowKit
set_option maxRecDepth 100000
set_option linter.unusedVariables false
theorem nat_and_all (k : Nat) (f : Nat → Nat) (h : (List.range 256).all (fun n => (n &&& k) == f n) = true) (a : Int) (h1 : 0 ≤ a) (h2 : a ≤ 255) : a.toNat &&& k = f a.toNat := by
  have := List.all_eq_true.mp h a.toNat (List.mem_range.mpr (by omega))
  exact beq_iff_eq.mp this
theorem and240 (a : Int) (h1 : 0 ≤ a) (h2 : a ≤ 255) : bits .and .u8 a 240 = a / 16 * 16 := by
  rw [u8_and a 240 h1 (by omega) (by decide) (by decide), show (240 : Int).toNat = 240 from rfl, nat_and_all 240 (fun n => n / 16 * 16) (by decide +kernel) a h1 h2]
  omega
theorem and224 (a : Int) (h1 : 0 ≤ a) (h2 : a ≤ 255) : bits .and .u8 a 224 = a / 32 * 32 := by
  rw [u8_and a 224 h1 (by omega) (by decide) (by decide), show (224 : Int).toNat = 224 from rfl, nat_and_all 224 (fun n => n / 32 * 32) (by decide +kernel) a h1 h2]
  omega
theorem and1 (a : Int) (h1 : 0 ≤ a) (h2 : a ≤ 255) : bits .and .u8 a 1 = a % 2 := by
  rw [u8_and a 1 h1 (by omega) (by decide) (by decide), show (1 : Int).toNat = 1 from rfl, nat_and_all 1 (fun n => n % 2) (by decide +kernel) a h1 h2]
  omega
theorem and3 (a : Int) (h1 : 0 ≤ a) (h2 : a ≤ 255) : bits .and .u8 a 3 = a % 4 := by
  rw [u8_and a 3 h1 (by omega) (by decide) (by decide), show (3 : Int).toNat = 3 from rfl, nat_and_all 3 (fun n => n % 4) (by decide +kernel) a h1 h2]
  omega
theorem and4 (a : Int) (h1 : 0 ≤ a) (h2 : a ≤ 255) : bits .and .u8 a 4 = a / 4 % 2 * 4 := by
  rw [u8_and a 4 h1 (by omega) (by decide) (by decide), show (4 : Int).toNat = 4 from rfl, nat_and_all 4 (fun n => n / 4 % 2 * 4) (by decide +kernel) a h1 h2]
  omega
theorem and8 (a : Int) (h1 : 0 ≤ a) (h2 : a ≤ 255) : bits .and .u8 a 8 = a / 8 % 2 * 8 := by
  rw [u8_and a 8 h1 (by omega) (by decide) (by decide), show (8 : Int).toNat = 8 from rfl, nat_and_all 8 (fun n => n / 8 % 2 * 8) (by decide +kernel) a h1 h2]
  omega
theorem and16 (a : Int) (h1 : 0 ≤ a) (h2 : a ≤ 255) : bits .and .u8 a 16 = a / 16 % 2 * 16 := by
  rw [u8_and a 16 h1 (by omega) (by decide) (by decide), show (16 : Int).toNat = 16 from rfl, nat_and_all 16 (fun n => n / 16 % 2 * 16) (by decide +kernel) a h1 h2]
  omega
theorem i_box (x : Ins) (w : World) : Below w.heap.size w (w.alloc (.cells (insCells x) 63)) := below_alloc (Below.refl _ _) _
set_option maxHeartbeats 1000000 in
theorem c7_class (x : Ins) (hx : x.ok) (w : World) : Calls Tryz.prog 144 #[iV x] w (Gives (.int .u8 (x.op % 8)) w) := by
  obtain ⟨⟨o1, o2⟩, _⟩ := hx
  have B := Lib.hid (i_box x w)
  go_enter Tryz.func144, Tryz.ntmps144
  go_wp2_with fail
  go_ret
  exact ⟨rfl, B.out⟩
set_option maxHeartbeats 1000000 in
theorem c7_wide (x : Ins) (w : World) : Calls Tryz.prog 87 #[iV x] w (Gives (.bool (x.op == 24)) w) := by
  have B := Lib.hid (i_box x w)
  go_enter Tryz.func87, Tryz.ntmps87
  go_wp2_with fail
  go_ret
  exact ⟨rfl, B.out⟩
set_option maxHeartbeats 1000000 in
theorem c7_high (x : Ins) (hx : x.ok) (w : World) : Calls Tryz.prog 149 #[iV x] w (Gives (.int .u8 (x.op / 16 * 16)) w) := by
  obtain ⟨⟨o1, o2⟩, _⟩ := hx
  have B := Lib.hid (i_box x w)
  have E := and240 x.op o1 o2
  generalize x.op / 16 * 16 = k at *
  go_enter Tryz.func149, Tryz.ntmps149
  go_wp2_with fail
  go_ret
  exact ⟨rfl, B.out⟩
set_option maxHeartbeats 1000000 in
theorem c7_mode (x : Ins) (hx : x.ok) (w : World) : Calls Tryz.prog 178 #[iV x] w (Gives (.int .u8 (x.op / 32 * 32)) w) := by
  obtain ⟨⟨o1, o2⟩, _⟩ := hx
  have B := Lib.hid (i_box x w)
  have E := and224 x.op o1 o2
  generalize x.op / 32 * 32 = k at *
  go_enter Tryz.func178, Tryz.ntmps178
  go_wp2_with fail
  go_ret
  exact ⟨rfl, B.out⟩
set_option maxHeartbeats 1000000 in
theorem c7_reg (x : Ins) (hx : x.ok) (w : World) : Calls Tryz.prog 181 #[iV x] w (Gives (.bool (x.op / 8 % 2 == 1)) w) := by
  obtain ⟨⟨o1, o2⟩, _⟩ := hx
  have B := Lib.hid (i_box x w)
  have E := and8 x.op o1 o2
  have h : x.op / 8 % 2 = 0 ∨ x.op / 8 % 2 = 1 := by omega
  rcases h with h | h
  all_goals
    rw [h] at E ⊢
    clear h
    go_enter Tryz.func181, Tryz.ntmps181
    go_wp2_with fail
    go_ret
    exact ⟨rfl, B.out⟩
set_option maxHeartbeats 1000000 in
theorem c7_second (x : Ins) (hx : x.ok) (w : World) : Calls Tryz.prog 183 #[iV x] w (Gives (.int .u8 (secF x)) w) := by
  have C := Lib.hid (c7_reg x hx)
  have B := Lib.hid (i_box x w)
  unfold secF
  generalize (x.op / 8 % 2 == 1) = b at *
  cases b
  · rw [if_neg Bool.false_ne_true]
    go_enter Tryz.func183, Tryz.ntmps183
    go_wp2_with fail
    refine (C.out _).mono ?_
    rintro e w5 ⟨rfl, b5⟩
    have BB := Lib.hid (below_next' B.out b5)
    clear b5
    go_wp2_with fail
    go_ret
    exact ⟨rfl, BB.out⟩
  · rw [if_pos rfl]
    go_enter Tryz.func183, Tryz.ntmps183
    go_wp2_with fail
    refine (C.out _).mono ?_
    rintro e w5 ⟨rfl, b5⟩
    have BB := Lib.hid (below_next' B.out b5)
    clear b5
    go_wp2_with fail
    go_ret
    exact ⟨rfl, BB.out⟩
set_option maxHeartbeats 2000000 in
theorem c7_sizeOf (x : Ins) (hx : x.ok) (w : World) : Calls Tryz.prog 177 #[iV x] w (Gives (.int .i64 (szT x.op)) w) := by
  obtain ⟨⟨o1, o2⟩, _⟩ := hx
  have B := Lib.hid (i_box x w)
  have E := and3 (x.op / 8) (by omega) (by omega)
  unfold szT
  have h : x.op / 8 % 4 = 0 ∨ x.op / 8 % 4 = 1 ∨ x.op / 8 % 4 = 2 ∨ x.op / 8 % 4 = 3 := by omega
  have I0 : ∀ w, (Instr.index 241 (.agg #[.int .i64 4, .int .i64 2, .int .i64 1, .int .i64 8]) (.int .u8 0)).run Tryz.prog w = .ok (.int .i64 4) w := fun _ => rfl
  have I1 : ∀ w, (Instr.index 241 (.agg #[.int .i64 4, .int .i64 2, .int .i64 1, .int .i64 8]) (.int .u8 1)).run Tryz.prog w = .ok (.int .i64 2) w := fun _ => rfl
  have I2 : ∀ w, (Instr.index 241 (.agg #[.int .i64 4, .int .i64 2, .int .i64 1, .int .i64 8]) (.int .u8 2)).run Tryz.prog w = .ok (.int .i64 1) w := fun _ => rfl
  have I3 : ∀ w, (Instr.index 241 (.agg #[.int .i64 4, .int .i64 2, .int .i64 1, .int .i64 8]) (.int .u8 3)).run Tryz.prog w = .ok (.int .i64 8) w := fun _ => rfl
  rcases h with h | h | h | h
  all_goals
    rw [h] at E ⊢
    clear h
    go_enter Tryz.func177, Tryz.ntmps177
    go_wp2_with fail
    go_ret
    exact ⟨rfl, B.out⟩
set_option maxHeartbeats 1000000 in
theorem c7_isAtom (n : Int) (w : World) : Calls Tryz.prog 179 #[.int .i32 n] w (Gives (.bool (atomB n)) w) := by
  unfold atomB
  cases h0 : (n == 0)
  rotate_left 1
  · go_enter Tryz.func179, Tryz.ntmps179
    go_wp2_with fail
    go_ret
    exact ⟨rfl, Below.refl _ _⟩
  cases h1 : (n == 64)
  rotate_left 1
  · go_enter Tryz.func179, Tryz.ntmps179
    go_wp2_with fail
    go_ret
    exact ⟨rfl, Below.refl _ _⟩
  cases h2 : (n == 80)
  rotate_left 1
  · go_enter Tryz.func179, Tryz.ntmps179
    go_wp2_with fail
    go_ret
    exact ⟨rfl, Below.refl _ _⟩
  cases h3 : (n == 160)
  all_goals
    go_enter Tryz.func179, Tryz.ntmps179
    go_wp2_with fail
    go_ret
    exact ⟨rfl, Below.refl _ _⟩
set_option maxHeartbeats 1000000 in
theorem c7_isSwap (n : Int) (w : World) : Calls Tryz.prog 180 #[.int .u8 n] w (Gives (.bool (swapB n)) w) := by
  unfold swapB
  cases h0 : (n == 212)
  rotate_left 1
  · go_enter Tryz.func180, Tryz.ntmps180
    go_wp2_with fail
    go_ret
    exact ⟨rfl, Below.refl _ _⟩
  cases h1 : (n == 215)
  rotate_left 1
  · go_enter Tryz.func180, Tryz.ntmps180
    go_wp2_with fail
    go_ret
    exact ⟨rfl, Below.refl _ _⟩
  cases h2 : (n == 220)
  all_goals
    go_enter Tryz.func180, Tryz.ntmps180
    go_wp2_with fail
    go_ret
    exact ⟨rfl, Below.refl _ _⟩
end Go.Proofs.YtlbhffdpklbhfaaGreat
