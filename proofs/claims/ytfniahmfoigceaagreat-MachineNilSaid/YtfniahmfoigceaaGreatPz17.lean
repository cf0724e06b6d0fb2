/-
  Texts, one behind the other: MachOk, WhBox, Ref07a, CodeTold.
  Conditions: those that each theorem states.
-/
import Derived.Test.YtfniahmfoigceaaGreatPz16
import Derived.Test.YtfniahmfoigceaaGreatPz15
import Derived.LoopTactic
import Derived.Test.YtfniahmfoigceaaGreatPz2

namespace Go.Proofs.YtfniahmfoigceaaGreat
open Go.RowKit
set_option maxRecDepth 100000
set_option linter.unusedVariables false
set_option linter.unusedSimpArgs false

/-- An instruction's registers are there. -/
def RegOk (x : Ins) : Prop := (0 ≤ x.dst ∧ x.dst ≤ 10) ∧ (0 ≤ x.src ∧ x.src ≤ 10)
abbrev MS.x (S : MS) : Ins := iAt S.l S.at_
theorem MS.ok.wOk {S : MS} (h : S.ok) : wOk S.x = true := whole_ok ((chk_ok h.chk).2.1 _ h.at_.1 h.at_.2)
theorem MS.ok.xok {S : MS} (h : S.ok) : S.x.ok := h.l _ h.at_.1
theorem reg_ok {x : Ins} (h : wOk x = true) (hx : x.ok) : RegOk x := by
  unfold Go.Proofs.YtfniahmfoigceaaGreat.wOk at h
  split at h
  · cases h
  · rename_i hc
    simp only [Bool.or_eq_true, decide_eq_true_eq, not_or] at hc
    obtain ⟨_, h1, h2, _⟩ := hx
    exact ⟨⟨h1.1, by omega⟩, h2.1, by omega⟩
theorem MS.ok.reg {S : MS} (h : S.ok) : RegOk S.x := reg_ok h.wOk h.xok
theorem wOf_of {x : Ins} (h : Go.Proofs.YtfniahmfoigceaaGreat.wOk x = true) : wOf x = waW x := by unfold wOf; rw [if_pos h]
/-- Which op a kind has. -/
theorem kind_long {x : Ins} (h : Go.Proofs.YtfniahmfoigceaaGreat.wOk x = true) (hk : (wOf x).kind = 3 ∨ (wOf x).kind = 4) : x.op = 24 := by
  rw [wOf_of h] at hk
  unfold waW at hk
  split at hk
  · simp [Wh.zero] at hk
  · split at hk
    · unfold otW at hk
      split at hk
      · simp at hk
      · split at hk
        · rename_i _ h24
          simpa using h24
        · split at hk
          · simp at hk
          · split at hk
            · simp at hk
            · split at hk
              · simp at hk
              · simp [Wh.zero] at hk
    · split at hk
      · simp [arW] at hk
      · split at hk
        · simp [brW] at hk
        · unfold meW at hk
          split at hk
          · simp at hk
          · split at hk
            · simp at hk
            · split at hk
              · simp at hk
              · split at hk
                · simp at hk
                · simp [Wh.zero] at hk
theorem MS.ok.half {S : MS} (h : S.ok) (hk : (wOf S.x).kind = 3 ∨ (wOf S.x).kind = 4) : S.at_ + 1 < S.l.length :=
  (half_of ((chk_ok h.chk).2.1 _ h.at_.1 h.at_.2) (kind_long h.wOk hk)).1
theorem MS.ok.imm {S : MS} (h : S.ok) (hk : (wOf S.x).kind = 4) : 0 ≤ S.x.imm := by
  have h24 := kind_long h.wOk (.inr hk)
  have hw := h.wOk
  rw [wOf_of hw] at hk
  unfold waW at hk
  unfold Go.Proofs.YtfniahmfoigceaaGreat.wOk at hw
  split at hw
  · cases hw
  · rename_i hc
    rw [if_neg hc] at hk
    have hin : inB others S.x.op = true := by rw [h24]; decide
    rw [if_pos hin] at hk hw
    unfold otW at hk
    unfold otOk at hw
    rw [h24] at hk hw
    simp only [show ((24 : Int) == 212) = false from rfl, show ((24 : Int) == 220) = false from rfl, show ((24 : Int) == 215) = false from rfl, Bool.or_false, Bool.false_or, if_neg Bool.false_ne_true, show ((24 : Int) == 24) = true from rfl, if_true] at hk hw
    by_cases hs : (S.x.src == 0) = true
    · rw [if_pos hs] at hk
      simp at hk
    · rw [if_neg hs] at hw
      simp only [Bool.and_eq_true, decide_eq_true_eq] at hw
      exact hw.2
/-- How many bytes. -/
theorem wh_size {x : Ins} : 0 ≤ (meW x).size ∧ (meW x).size ≤ 16 := by
  have a := szFrom_rng [97, 105, 113, 121] x.op
  have c := szFrom_rng [98, 106, 114, 122] x.op
  have d := szFrom_rng [99, 107, 115, 123] x.op
  have b : 0 ≤ szG x.op ∧ szG x.op ≤ 8 := szFrom_rng [129, 137, 145] x.op
  have a' : szL x.op = szFrom [97, 105, 113, 121] [4, 2, 1, 8] x.op := rfl
  have c' : szS x.op = szFrom [98, 106, 114, 122] [4, 2, 1, 8] x.op := rfl
  have d' : szP x.op = szFrom [99, 107, 115, 123] [4, 2, 1, 8] x.op := rfl
  unfold meW
  split
  · dsimp only; omega
  · split
    · dsimp only; omega
    · split
      · dsimp only; omega
      · split
        · dsimp only; split <;> omega
        · simp [Wh.zero]
theorem size_rng {x : Ins} (h : Go.Proofs.YtfniahmfoigceaaGreat.wOk x = true) : 0 ≤ (wOf x).size ∧ (wOf x).size ≤ 16 := by
  rw [wOf_of h]
  unfold Go.Proofs.YtfniahmfoigceaaGreat.wOk at h
  unfold waW
  split at h
  · cases h
  · rename_i hc
    rw [if_neg hc]
    split
    · rename_i hi
      rw [if_pos hi] at h
      unfold otW
      unfold otOk at h
      split
      · rename_i hq
        rw [if_pos hq] at h
        simp only [Bool.and_eq_true, Bool.or_eq_true, beq_iff_eq] at h
        have hh := h.2
        show 0 ≤ x.imm.tdiv 8 ∧ x.imm.tdiv 8 ≤ 16
        rcases hh with (e | e) | e <;> rw [e] <;> decide
      · split
        · exact ⟨by show (0 : Int) ≤ 0; omega, by show (0 : Int) ≤ 16; omega⟩
        · repeat' split
          all_goals first | exact ⟨by show (0 : Int) ≤ 0; omega, by show (0 : Int) ≤ 16; omega⟩ | (simp [Wh.zero])
    · split
      · simp [arW]
      · split
        · simp [brW]
        · exact wh_size

end Go.Proofs.YtfniahmfoigceaaGreat

namespace Go.Proofs.YtfniahmfoigceaaGreat
open Go.RowKit
set_option linter.unusedVariables false

abbrev whCells (v : Wh) : Array Value := #[.int .u8 v.kind, .int .u8 v.op, .bool v.wide, .bool v.reg, .bool v.signed, .int .i64 v.size]
def whB (g : Nat) (v : Wh) (w : World) : Prop := Blk g (whCells v) 97 w
theorem whB.lt {g : Nat} {v : Wh} {w : World} (h : whB g v w) : g < w.heap.size := Blk.lt h
theorem whB.new (w : World) (v : Wh) {g : Nat} (hg : g = w.heap.size) : whB g v (w.alloc (.cells (whCells v) 97)) := Blk.new w _ _ hg
theorem whB.after {g : Nat} {v : Wh} {w w' : World} (h : whB g v w) (b : Below w.heap.size w w') : whB g v w' := Blk.after h b
theorem iB.alloc {g : Nat} {x : Ins} {w : World} (h : iB g x w) (o : Obj) : iB g x (w.alloc o) := h.after (below_alloc (Below.refl _ _) o)
theorem whB.cells {g : Nat} {v : Wh} {w : World} (h : whB g v w) : w.cell? ⟨g, 0, none⟩ = some (.int .u8 v.kind) ∧ w.cell? ⟨g, 1, none⟩ = some (.int .u8 v.op) ∧ w.cell? ⟨g, 2, none⟩ = some (.bool v.wide) ∧ w.cell? ⟨g, 3, none⟩ = some (.bool v.reg) ∧ w.cell? ⟨g, 4, none⟩ = some (.bool v.signed) ∧ w.cell? ⟨g, 5, none⟩ = some (.int .i64 v.size) :=
  ⟨Blk.cell h 0, Blk.cell h 1, Blk.cell h 2, Blk.cell h 3, Blk.cell h 4, Blk.cell h 5⟩
theorem whB.free {g : Nat} {v : Wh} {w : World} (h : whB g v w) : w.frozen? ⟨g, 0, none⟩ = false ∧ w.frozen? ⟨g, 1, none⟩ = false ∧ w.frozen? ⟨g, 2, none⟩ = false ∧ w.frozen? ⟨g, 3, none⟩ = false ∧ w.frozen? ⟨g, 4, none⟩ = false ∧ w.frozen? ⟨g, 5, none⟩ = false :=
  ⟨Blk.free h 0, Blk.free h 1, Blk.free h 2, Blk.free h 3, Blk.free h 4, Blk.free h 5⟩
/-- What is stored whole. -/
abbrev whSet (w : World) (g : Nat) (u : Wh) : World := (((((w.setCell ⟨g, 0, none⟩ (.int .u8 u.kind)).setCell ⟨g, 1, none⟩ (.int .u8 u.op)).setCell ⟨g, 2, none⟩ (.bool u.wide)).setCell ⟨g, 3, none⟩ (.bool u.reg)).setCell ⟨g, 4, none⟩ (.bool u.signed)).setCell ⟨g, 5, none⟩ (.int .i64 u.size)
theorem whB.set {g : Nat} {v : Wh} {w : World} (h : whB g v w) (u : Wh) : whB g u (whSet w g u) :=
  Blk.set (Blk.set (Blk.set (Blk.set (Blk.set (Blk.set h 0 _) 1 _) 2 _) 3 _) 4 _) 5 _
theorem Blk.whs {g k : Nat} {cs : Array Value} {t : TypeId} {w : World} (h : Blk g cs t w) (u : Wh) (hk : g ≠ k) : Blk g cs t (whSet w k u) :=
  Blk.other (Blk.other (Blk.other (Blk.other (Blk.other (Blk.other h _ hk) _ hk) _ hk) _ hk) _ hk) _ hk
theorem whB.whs {g k : Nat} {v : Wh} {w : World} (h : whB g v w) (u : Wh) (hk : g ≠ k) : whB g v (whSet w k u) := Blk.whs h u hk
theorem iB.whs {g k : Nat} {x : Ins} {w : World} (h : iB g x w) (u : Wh) (hk : g ≠ k) : iB g x (whSet w k u) := Blk.whs h u hk
theorem below_whs {B k : Nat} {w u : World} (h : Below B w u) (hk : B ≤ k) (v : Wh) : Below B w (whSet u k v) :=
  (((((h.setCell (p := ⟨k, 0, none⟩) hk _).setCell (p := ⟨k, 1, none⟩) hk _).setCell (p := ⟨k, 2, none⟩) hk _).setCell (p := ⟨k, 3, none⟩) hk _).setCell (p := ⟨k, 4, none⟩) hk _).setCell (p := ⟨k, 5, none⟩) hk _
/-- Three blocks of a call: an instruction, what is answered, what was made. -/
def ITri (x : Ins) (v u : Wh) (w w' : World) : Prop := Below w.heap.size w w' ∧ iB w.heap.size x w' ∧ whB (w.heap.size + 1) v w' ∧ whB (w.heap.size + 2) u w'
theorem ITri.set {x : Ins} {v u : Wh} {w w1 : World} (h : ITri x v u w w1) (y : Wh) : ITri x y u w (whSet w1 (w.heap.size + 1) y) :=
  ⟨below_whs h.1 (by omega) y, h.2.1.whs y (by omega), h.2.2.1.set y, h.2.2.2.whs y (by omega)⟩
/-- Two of them. -/
def IDuo (x : Ins) (v : Wh) (w w' : World) : Prop := Below w.heap.size w w' ∧ iB w.heap.size x w' ∧ whB (w.heap.size + 1) v w'
theorem IDuo.new (x : Ins) (v : Wh) (w : World) : IDuo x v w ((w.alloc (.cells (insCells x) 64)).alloc (.cells (whCells v) 97)) :=
  ⟨below_alloc (below_alloc (Below.refl _ _) _) _, (iB.new w x rfl).alloc _, whB.new _ v (by simp)⟩
theorem IDuo.after {x : Ins} {v : Wh} {w w1 w2 : World} (h : IDuo x v w w1) (b : Below w1.heap.size w1 w2) : IDuo x v w w2 := ⟨below_next' h.1 b, h.2.1.after b, h.2.2.after b⟩
theorem IDuo.set {x : Ins} {v : Wh} {w w1 : World} (h : IDuo x v w w1) (y : Wh) : IDuo x y w (whSet w1 (w.heap.size + 1) y) :=
  ⟨below_whs h.1 (by omega) y, h.2.1.whs y (by omega), h.2.2.set y⟩

end Go.Proofs.YtfniahmfoigceaaGreat

namespace Go.Proofs.YtfniahmfoigceaaGreat
open Go.RowKit
set_option linter.unusedVariables false

theorem or_ways (s a : Bool) : s = true ∨ (s = false ∧ a = true) ∨ (s = false ∧ a = false) := by cases s <;> cases a <;> simp
end Go.Proofs.YtfniahmfoigceaaGreat

namespace Go.Proofs.YtfniahmfoigceaaGreat
open Go Go.RowKit
set_option linter.unusedVariables false
set_option linter.unusedSimpArgs false

def szT (op : Int) : Int := if op / 8 % 4 = 0 then 4 else if op / 8 % 4 = 1 then 2 else if op / 8 % 4 = 2 then 1 else 8
def tDouble (x : Ins) : Wh × Int :=
  if x.op == 24 then (if x.src == 0 then (⟨3, 0, true, false, false, 0⟩, 17) else if x.src == 1 && decide (0 ≤ x.imm) then (⟨4, 0, true, false, false, 0⟩, 21) else (Wh.zero, 0)) else (Wh.zero, 0)
def tLoad (x : Ins) : Wh × Int :=
  if x.op / 32 * 32 == 96 || (x.op / 32 * 32 == 128 && decide (szT x.op < 8)) then (⟨5, 0, false, false, x.op / 32 * 32 == 128, szT x.op⟩, 13) else (Wh.zero, 0)
def tStore (x : Ins) : Wh × Int :=
  if x.op / 32 * 32 == 96 then (⟨6, 0, false, false, false, szT x.op⟩, 26) else (Wh.zero, 0)
def atomB (n : Int) : Bool := n == 0 || n == 64 || n == 80 || n == 160
def tPutI (x : Ins) : Wh × Int :=
  if x.op / 32 * 32 == 96 then (⟨7, 0, false, true, false, szT x.op⟩, 14)
  else if x.op / 32 * 32 == 192 && decide (4 ≤ szT x.op) && atomB x.imm then (⟨8, x.imm % 256, false, true, false, szT x.op⟩, 30) else (Wh.zero, 0)
def swapB (n : Int) : Bool := n == 212 || n == 215 || n == 220
def tSwaps (x : Ins) : Wh × Int :=
  if !swapB x.op || (x.imm != 16 && x.imm != 32 && x.imm != 64) then (Wh.zero, 0) else (⟨2, 0, x.op != 212, false, false, x.imm.tdiv 8⟩, 17)
def offB (o : Int) (wide reg : Bool) (off : Int) : Bool :=
  if off == 0 then true else if o == 48 || o == 144 then off == 1 else if o == 176 && reg then off == 8 || off == 16 || (off == 32 && wide) else false
def secF (x : Ins) : Int := if x.op / 8 % 2 == 1 then 4 else 16
def tArith (x : Ins) : Wh × Int :=
  if !offB (x.op / 16 * 16) (x.op % 8 == 7) (x.op / 8 % 2 == 1) x.off then (Wh.zero, 0)
  else if x.op / 16 * 16 != 128 then (arW x, 9 + secF x)
  else if x.op / 8 % 2 == 1 then (Wh.zero, 0) else (arW x, 1)
def tAlone (x : Ins) : Wh × Int :=
  if x.op == 5 then (⟨9, 0, false, false, false, 0⟩, 8) else if x.op == 6 then (⟨9, 0, false, false, false, 0⟩, 16)
  else if x.op == 133 then (⟨11, 0, false, false, false, 0⟩, 16) else if x.op == 149 then (⟨12, 0, false, false, false, 0⟩, 0) else (Wh.zero, 0)
def tBranch (x : Ins) : Wh × Int :=
  if inB [16, 80, 64, 32, 48, 160, 176, 96, 112, 192, 208] (x.op / 16 * 16) then (brW x, 10 + secF x) else (Wh.zero, 0)
/-- What an instruction does, and the fields that it has for that. -/
def tTold (x : Ins) : Wh × Int :=
  if x.op % 8 == 0 then tDouble x
  else if x.op % 8 == 1 then tLoad x
  else if x.op % 8 == 2 then tStore x
  else if x.op % 8 == 3 then tPutI x
  else if x.op % 8 == 4 || x.op % 8 == 7 then (if decide (192 < x.op / 16 * 16) then tSwaps x else tArith x)
  else if (tAlone x).1.kind != 0 then tAlone x else tBranch x
def tOnly (x : Ins) (f : Int) : Bool := (x.dst == 0 || f % 4 != 0) && ((x.src == 0 || f / 4 % 2 * 4 != 0) && ((x.off == 0 || f / 8 % 2 * 8 != 0) && (x.imm == 0 || f / 16 % 2 * 16 != 0)))
def tRegs (x : Ins) (f : Int) : Bool := decide (x.dst ≤ 10) && (decide (x.src ≤ 10) && (x.dst != 10 || f % 2 == 0))
def tOk (x : Ins) : Bool := (tTold x).1.kind != 0 && (tOnly x (tTold x).2 && tRegs x (tTold x).2)

set_option maxHeartbeats 16000000 in
set_option maxRecDepth 100000 in
theorem told_c0 (x : Ins) (hx : x.ok) (h : x.op % 8 = 0) : tOk x = wOk x ∧ (wOk x = true → (tTold x).1 = waW x) := by
  obtain ⟨op, dst, src, off, imm⟩ := x
  obtain ⟨⟨o1, o2⟩, ⟨d1, d2⟩, ⟨s1, s2⟩, _, i1, i2⟩ := hx
  simp only at *
  obtain ⟨q, rfl⟩ : ∃ q : Int, op = 8 * q + 0 := ⟨op / 8, by omega⟩
  have hq : 0 ≤ q ∧ q < 32 := by omega
  clear o1 o2 h
  have all : q = 0 ∨ q = 1 ∨ q = 2 ∨ q = 3 ∨ q = 4 ∨ q = 5 ∨ q = 6 ∨ q = 7 ∨ q = 8 ∨ q = 9 ∨ q = 10 ∨ q = 11 ∨ q = 12 ∨ q = 13 ∨ q = 14 ∨ q = 15 ∨ q = 16 ∨ q = 17 ∨ q = 18 ∨ q = 19 ∨ q = 20 ∨ q = 21 ∨ q = 22 ∨ q = 23 ∨ q = 24 ∨ q = 25 ∨ q = 26 ∨ q = 27 ∨ q = 28 ∨ q = 29 ∨ q = 30 ∨ q = 31 := by omega
  rcases all with rfl | rfl | rfl | rfl | rfl | rfl | rfl | rfl | rfl | rfl | rfl | rfl | rfl | rfl | rfl | rfl | rfl | rfl | rfl | rfl | rfl | rfl | rfl | rfl | rfl | rfl | rfl | rfl | rfl | rfl | rfl | rfl
  all_goals
    first
      | (refine ⟨?_, fun h => ?_⟩ <;> first | rfl | (exact absurd h Bool.false_ne_true))
      | (refine ⟨?_, ?_⟩
         · simp (config := { decide := true }) [tOk, tTold, tDouble, tLoad, tStore, tPutI, tSwaps, tArith, tAlone, tBranch, tOnly, tRegs, szT, atomB, swapB, offB, secF, Wh.zero, wOk, waW, arW, arOk, arOff, ariths, inB, meW, meOk, otW, otOk, others, jumps, brW, brOk, szL, szG, szS, szP, szFrom, onlyB] <;> (try rw [Bool.eq_iff_iff]) <;> (try simp) <;> (repeat' split) <;> (try omega) <;> (try simp_all) <;> (try omega)
         · simp (config := { decide := true }) [tOk, tTold, tDouble, tLoad, tStore, tPutI, tSwaps, tArith, tAlone, tBranch, tOnly, tRegs, szT, atomB, swapB, offB, secF, Wh.zero, wOk, waW, arW, arOk, arOff, ariths, inB, meW, meOk, otW, otOk, others, jumps, brW, brOk, szL, szG, szS, szP, szFrom, onlyB] <;> (try (intros; simp_all)) <;> (repeat' split) <;> (try omega) <;> (try simp_all) <;> (try omega))
set_option maxHeartbeats 16000000 in
set_option maxRecDepth 100000 in
theorem told_c1 (x : Ins) (hx : x.ok) (h : x.op % 8 = 1) : tOk x = wOk x ∧ (wOk x = true → (tTold x).1 = waW x) := by
  obtain ⟨op, dst, src, off, imm⟩ := x
  obtain ⟨⟨o1, o2⟩, ⟨d1, d2⟩, ⟨s1, s2⟩, _, i1, i2⟩ := hx
  simp only at *
  obtain ⟨q, rfl⟩ : ∃ q : Int, op = 8 * q + 1 := ⟨op / 8, by omega⟩
  have hq : 0 ≤ q ∧ q < 32 := by omega
  clear o1 o2 h
  have all : q = 0 ∨ q = 1 ∨ q = 2 ∨ q = 3 ∨ q = 4 ∨ q = 5 ∨ q = 6 ∨ q = 7 ∨ q = 8 ∨ q = 9 ∨ q = 10 ∨ q = 11 ∨ q = 12 ∨ q = 13 ∨ q = 14 ∨ q = 15 ∨ q = 16 ∨ q = 17 ∨ q = 18 ∨ q = 19 ∨ q = 20 ∨ q = 21 ∨ q = 22 ∨ q = 23 ∨ q = 24 ∨ q = 25 ∨ q = 26 ∨ q = 27 ∨ q = 28 ∨ q = 29 ∨ q = 30 ∨ q = 31 := by omega
  rcases all with rfl | rfl | rfl | rfl | rfl | rfl | rfl | rfl | rfl | rfl | rfl | rfl | rfl | rfl | rfl | rfl | rfl | rfl | rfl | rfl | rfl | rfl | rfl | rfl | rfl | rfl | rfl | rfl | rfl | rfl | rfl | rfl
  all_goals
    first
      | (refine ⟨?_, fun h => ?_⟩ <;> first | rfl | (exact absurd h Bool.false_ne_true))
      | (refine ⟨?_, ?_⟩
         · simp (config := { decide := true }) [tOk, tTold, tDouble, tLoad, tStore, tPutI, tSwaps, tArith, tAlone, tBranch, tOnly, tRegs, szT, atomB, swapB, offB, secF, Wh.zero, wOk, waW, arW, arOk, arOff, ariths, inB, meW, meOk, otW, otOk, others, jumps, brW, brOk, szL, szG, szS, szP, szFrom, onlyB] <;> (try rw [Bool.eq_iff_iff]) <;> (try simp) <;> (repeat' split) <;> (try omega) <;> (try simp_all) <;> (try omega)
         · simp (config := { decide := true }) [tOk, tTold, tDouble, tLoad, tStore, tPutI, tSwaps, tArith, tAlone, tBranch, tOnly, tRegs, szT, atomB, swapB, offB, secF, Wh.zero, wOk, waW, arW, arOk, arOff, ariths, inB, meW, meOk, otW, otOk, others, jumps, brW, brOk, szL, szG, szS, szP, szFrom, onlyB] <;> (try (intros; simp_all)) <;> (repeat' split) <;> (try omega) <;> (try simp_all) <;> (try omega))
set_option maxHeartbeats 16000000 in
set_option maxRecDepth 100000 in
theorem told_c2 (x : Ins) (hx : x.ok) (h : x.op % 8 = 2) : tOk x = wOk x ∧ (wOk x = true → (tTold x).1 = waW x) := by
  obtain ⟨op, dst, src, off, imm⟩ := x
  obtain ⟨⟨o1, o2⟩, ⟨d1, d2⟩, ⟨s1, s2⟩, _, i1, i2⟩ := hx
  simp only at *
  obtain ⟨q, rfl⟩ : ∃ q : Int, op = 8 * q + 2 := ⟨op / 8, by omega⟩
  have hq : 0 ≤ q ∧ q < 32 := by omega
  clear o1 o2 h
  have all : q = 0 ∨ q = 1 ∨ q = 2 ∨ q = 3 ∨ q = 4 ∨ q = 5 ∨ q = 6 ∨ q = 7 ∨ q = 8 ∨ q = 9 ∨ q = 10 ∨ q = 11 ∨ q = 12 ∨ q = 13 ∨ q = 14 ∨ q = 15 ∨ q = 16 ∨ q = 17 ∨ q = 18 ∨ q = 19 ∨ q = 20 ∨ q = 21 ∨ q = 22 ∨ q = 23 ∨ q = 24 ∨ q = 25 ∨ q = 26 ∨ q = 27 ∨ q = 28 ∨ q = 29 ∨ q = 30 ∨ q = 31 := by omega
  rcases all with rfl | rfl | rfl | rfl | rfl | rfl | rfl | rfl | rfl | rfl | rfl | rfl | rfl | rfl | rfl | rfl | rfl | rfl | rfl | rfl | rfl | rfl | rfl | rfl | rfl | rfl | rfl | rfl | rfl | rfl | rfl | rfl
  all_goals
    first
      | (refine ⟨?_, fun h => ?_⟩ <;> first | rfl | (exact absurd h Bool.false_ne_true))
      | (refine ⟨?_, ?_⟩
         · simp (config := { decide := true }) [tOk, tTold, tDouble, tLoad, tStore, tPutI, tSwaps, tArith, tAlone, tBranch, tOnly, tRegs, szT, atomB, swapB, offB, secF, Wh.zero, wOk, waW, arW, arOk, arOff, ariths, inB, meW, meOk, otW, otOk, others, jumps, brW, brOk, szL, szG, szS, szP, szFrom, onlyB] <;> (try rw [Bool.eq_iff_iff]) <;> (try simp) <;> (repeat' split) <;> (try omega) <;> (try simp_all) <;> (try omega)
         · simp (config := { decide := true }) [tOk, tTold, tDouble, tLoad, tStore, tPutI, tSwaps, tArith, tAlone, tBranch, tOnly, tRegs, szT, atomB, swapB, offB, secF, Wh.zero, wOk, waW, arW, arOk, arOff, ariths, inB, meW, meOk, otW, otOk, others, jumps, brW, brOk, szL, szG, szS, szP, szFrom, onlyB] <;> (try (intros; simp_all)) <;> (repeat' split) <;> (try omega) <;> (try simp_all) <;> (try omega))
set_option maxHeartbeats 16000000 in
set_option maxRecDepth 100000 in
theorem told_c3 (x : Ins) (hx : x.ok) (h : x.op % 8 = 3) : tOk x = wOk x ∧ (wOk x = true → (tTold x).1 = waW x) := by
  obtain ⟨op, dst, src, off, imm⟩ := x
  obtain ⟨⟨o1, o2⟩, ⟨d1, d2⟩, ⟨s1, s2⟩, _, i1, i2⟩ := hx
  simp only at *
  obtain ⟨q, rfl⟩ : ∃ q : Int, op = 8 * q + 3 := ⟨op / 8, by omega⟩
  have hq : 0 ≤ q ∧ q < 32 := by omega
  clear o1 o2 h
  have all : q = 0 ∨ q = 1 ∨ q = 2 ∨ q = 3 ∨ q = 4 ∨ q = 5 ∨ q = 6 ∨ q = 7 ∨ q = 8 ∨ q = 9 ∨ q = 10 ∨ q = 11 ∨ q = 12 ∨ q = 13 ∨ q = 14 ∨ q = 15 ∨ q = 16 ∨ q = 17 ∨ q = 18 ∨ q = 19 ∨ q = 20 ∨ q = 21 ∨ q = 22 ∨ q = 23 ∨ q = 24 ∨ q = 25 ∨ q = 26 ∨ q = 27 ∨ q = 28 ∨ q = 29 ∨ q = 30 ∨ q = 31 := by omega
  rcases all with rfl | rfl | rfl | rfl | rfl | rfl | rfl | rfl | rfl | rfl | rfl | rfl | rfl | rfl | rfl | rfl | rfl | rfl | rfl | rfl | rfl | rfl | rfl | rfl | rfl | rfl | rfl | rfl | rfl | rfl | rfl | rfl
  all_goals
    first
      | (refine ⟨?_, fun h => ?_⟩ <;> first | rfl | (exact absurd h Bool.false_ne_true))
      | (refine ⟨?_, ?_⟩
         · simp (config := { decide := true }) [tOk, tTold, tDouble, tLoad, tStore, tPutI, tSwaps, tArith, tAlone, tBranch, tOnly, tRegs, szT, atomB, swapB, offB, secF, Wh.zero, wOk, waW, arW, arOk, arOff, ariths, inB, meW, meOk, otW, otOk, others, jumps, brW, brOk, szL, szG, szS, szP, szFrom, onlyB] <;> (try rw [Bool.eq_iff_iff]) <;> (try simp) <;> (repeat' split) <;> (try omega) <;> (try simp_all) <;> (try omega)
         · simp (config := { decide := true }) [tOk, tTold, tDouble, tLoad, tStore, tPutI, tSwaps, tArith, tAlone, tBranch, tOnly, tRegs, szT, atomB, swapB, offB, secF, Wh.zero, wOk, waW, arW, arOk, arOff, ariths, inB, meW, meOk, otW, otOk, others, jumps, brW, brOk, szL, szG, szS, szP, szFrom, onlyB] <;> (try (intros; simp_all)) <;> (repeat' split) <;> (try omega) <;> (try simp_all) <;> (try omega))
set_option maxHeartbeats 16000000 in
set_option maxRecDepth 100000 in
theorem told_c4 (x : Ins) (hx : x.ok) (h : x.op % 8 = 4) : tOk x = wOk x ∧ (wOk x = true → (tTold x).1 = waW x) := by
  obtain ⟨op, dst, src, off, imm⟩ := x
  obtain ⟨⟨o1, o2⟩, ⟨d1, d2⟩, ⟨s1, s2⟩, _, i1, i2⟩ := hx
  simp only at *
  obtain ⟨q, rfl⟩ : ∃ q : Int, op = 8 * q + 4 := ⟨op / 8, by omega⟩
  have hq : 0 ≤ q ∧ q < 32 := by omega
  clear o1 o2 h
  have all : q = 0 ∨ q = 1 ∨ q = 2 ∨ q = 3 ∨ q = 4 ∨ q = 5 ∨ q = 6 ∨ q = 7 ∨ q = 8 ∨ q = 9 ∨ q = 10 ∨ q = 11 ∨ q = 12 ∨ q = 13 ∨ q = 14 ∨ q = 15 ∨ q = 16 ∨ q = 17 ∨ q = 18 ∨ q = 19 ∨ q = 20 ∨ q = 21 ∨ q = 22 ∨ q = 23 ∨ q = 24 ∨ q = 25 ∨ q = 26 ∨ q = 27 ∨ q = 28 ∨ q = 29 ∨ q = 30 ∨ q = 31 := by omega
  rcases all with rfl | rfl | rfl | rfl | rfl | rfl | rfl | rfl | rfl | rfl | rfl | rfl | rfl | rfl | rfl | rfl | rfl | rfl | rfl | rfl | rfl | rfl | rfl | rfl | rfl | rfl | rfl | rfl | rfl | rfl | rfl | rfl
  all_goals
    first
      | (refine ⟨?_, fun h => ?_⟩ <;> first | rfl | (exact absurd h Bool.false_ne_true))
      | (refine ⟨?_, ?_⟩
         · simp (config := { decide := true }) [tOk, tTold, tDouble, tLoad, tStore, tPutI, tSwaps, tArith, tAlone, tBranch, tOnly, tRegs, szT, atomB, swapB, offB, secF, Wh.zero, wOk, waW, arW, arOk, arOff, ariths, inB, meW, meOk, otW, otOk, others, jumps, brW, brOk, szL, szG, szS, szP, szFrom, onlyB] <;> (try rw [Bool.eq_iff_iff]) <;> (try simp) <;> (repeat' split) <;> (try omega) <;> (try simp_all) <;> (try omega)
         · simp (config := { decide := true }) [tOk, tTold, tDouble, tLoad, tStore, tPutI, tSwaps, tArith, tAlone, tBranch, tOnly, tRegs, szT, atomB, swapB, offB, secF, Wh.zero, wOk, waW, arW, arOk, arOff, ariths, inB, meW, meOk, otW, otOk, others, jumps, brW, brOk, szL, szG, szS, szP, szFrom, onlyB] <;> (try (intros; simp_all)) <;> (repeat' split) <;> (try omega) <;> (try simp_all) <;> (try omega))
set_option maxHeartbeats 16000000 in
set_option maxRecDepth 100000 in
theorem told_c5 (x : Ins) (hx : x.ok) (h : x.op % 8 = 5) : tOk x = wOk x ∧ (wOk x = true → (tTold x).1 = waW x) := by
  obtain ⟨op, dst, src, off, imm⟩ := x
  obtain ⟨⟨o1, o2⟩, ⟨d1, d2⟩, ⟨s1, s2⟩, _, i1, i2⟩ := hx
  simp only at *
  obtain ⟨q, rfl⟩ : ∃ q : Int, op = 8 * q + 5 := ⟨op / 8, by omega⟩
  have hq : 0 ≤ q ∧ q < 32 := by omega
  clear o1 o2 h
  have all : q = 0 ∨ q = 1 ∨ q = 2 ∨ q = 3 ∨ q = 4 ∨ q = 5 ∨ q = 6 ∨ q = 7 ∨ q = 8 ∨ q = 9 ∨ q = 10 ∨ q = 11 ∨ q = 12 ∨ q = 13 ∨ q = 14 ∨ q = 15 ∨ q = 16 ∨ q = 17 ∨ q = 18 ∨ q = 19 ∨ q = 20 ∨ q = 21 ∨ q = 22 ∨ q = 23 ∨ q = 24 ∨ q = 25 ∨ q = 26 ∨ q = 27 ∨ q = 28 ∨ q = 29 ∨ q = 30 ∨ q = 31 := by omega
  rcases all with rfl | rfl | rfl | rfl | rfl | rfl | rfl | rfl | rfl | rfl | rfl | rfl | rfl | rfl | rfl | rfl | rfl | rfl | rfl | rfl | rfl | rfl | rfl | rfl | rfl | rfl | rfl | rfl | rfl | rfl | rfl | rfl
  all_goals
    first
      | (refine ⟨?_, fun h => ?_⟩ <;> first | rfl | (exact absurd h Bool.false_ne_true))
      | (refine ⟨?_, ?_⟩
         · simp (config := { decide := true }) [tOk, tTold, tDouble, tLoad, tStore, tPutI, tSwaps, tArith, tAlone, tBranch, tOnly, tRegs, szT, atomB, swapB, offB, secF, Wh.zero, wOk, waW, arW, arOk, arOff, ariths, inB, meW, meOk, otW, otOk, others, jumps, brW, brOk, szL, szG, szS, szP, szFrom, onlyB] <;> (try rw [Bool.eq_iff_iff]) <;> (try simp) <;> (repeat' split) <;> (try omega) <;> (try simp_all) <;> (try omega)
         · simp (config := { decide := true }) [tOk, tTold, tDouble, tLoad, tStore, tPutI, tSwaps, tArith, tAlone, tBranch, tOnly, tRegs, szT, atomB, swapB, offB, secF, Wh.zero, wOk, waW, arW, arOk, arOff, ariths, inB, meW, meOk, otW, otOk, others, jumps, brW, brOk, szL, szG, szS, szP, szFrom, onlyB] <;> (try (intros; simp_all)) <;> (repeat' split) <;> (try omega) <;> (try simp_all) <;> (try omega))
set_option maxHeartbeats 16000000 in
set_option maxRecDepth 100000 in
theorem told_c6 (x : Ins) (hx : x.ok) (h : x.op % 8 = 6) : tOk x = wOk x ∧ (wOk x = true → (tTold x).1 = waW x) := by
  obtain ⟨op, dst, src, off, imm⟩ := x
  obtain ⟨⟨o1, o2⟩, ⟨d1, d2⟩, ⟨s1, s2⟩, _, i1, i2⟩ := hx
  simp only at *
  obtain ⟨q, rfl⟩ : ∃ q : Int, op = 8 * q + 6 := ⟨op / 8, by omega⟩
  have hq : 0 ≤ q ∧ q < 32 := by omega
  clear o1 o2 h
  have all : q = 0 ∨ q = 1 ∨ q = 2 ∨ q = 3 ∨ q = 4 ∨ q = 5 ∨ q = 6 ∨ q = 7 ∨ q = 8 ∨ q = 9 ∨ q = 10 ∨ q = 11 ∨ q = 12 ∨ q = 13 ∨ q = 14 ∨ q = 15 ∨ q = 16 ∨ q = 17 ∨ q = 18 ∨ q = 19 ∨ q = 20 ∨ q = 21 ∨ q = 22 ∨ q = 23 ∨ q = 24 ∨ q = 25 ∨ q = 26 ∨ q = 27 ∨ q = 28 ∨ q = 29 ∨ q = 30 ∨ q = 31 := by omega
  rcases all with rfl | rfl | rfl | rfl | rfl | rfl | rfl | rfl | rfl | rfl | rfl | rfl | rfl | rfl | rfl | rfl | rfl | rfl | rfl | rfl | rfl | rfl | rfl | rfl | rfl | rfl | rfl | rfl | rfl | rfl | rfl | rfl
  all_goals
    first
      | (refine ⟨?_, fun h => ?_⟩ <;> first | rfl | (exact absurd h Bool.false_ne_true))
      | (refine ⟨?_, ?_⟩
         · simp (config := { decide := true }) [tOk, tTold, tDouble, tLoad, tStore, tPutI, tSwaps, tArith, tAlone, tBranch, tOnly, tRegs, szT, atomB, swapB, offB, secF, Wh.zero, wOk, waW, arW, arOk, arOff, ariths, inB, meW, meOk, otW, otOk, others, jumps, brW, brOk, szL, szG, szS, szP, szFrom, onlyB] <;> (try rw [Bool.eq_iff_iff]) <;> (try simp) <;> (repeat' split) <;> (try omega) <;> (try simp_all) <;> (try omega)
         · simp (config := { decide := true }) [tOk, tTold, tDouble, tLoad, tStore, tPutI, tSwaps, tArith, tAlone, tBranch, tOnly, tRegs, szT, atomB, swapB, offB, secF, Wh.zero, wOk, waW, arW, arOk, arOff, ariths, inB, meW, meOk, otW, otOk, others, jumps, brW, brOk, szL, szG, szS, szP, szFrom, onlyB] <;> (try (intros; simp_all)) <;> (repeat' split) <;> (try omega) <;> (try simp_all) <;> (try omega))
set_option maxHeartbeats 16000000 in
set_option maxRecDepth 100000 in
theorem told_c7 (x : Ins) (hx : x.ok) (h : x.op % 8 = 7) : tOk x = wOk x ∧ (wOk x = true → (tTold x).1 = waW x) := by
  obtain ⟨op, dst, src, off, imm⟩ := x
  obtain ⟨⟨o1, o2⟩, ⟨d1, d2⟩, ⟨s1, s2⟩, _, i1, i2⟩ := hx
  simp only at *
  obtain ⟨q, rfl⟩ : ∃ q : Int, op = 8 * q + 7 := ⟨op / 8, by omega⟩
  have hq : 0 ≤ q ∧ q < 32 := by omega
  clear o1 o2 h
  have all : q = 0 ∨ q = 1 ∨ q = 2 ∨ q = 3 ∨ q = 4 ∨ q = 5 ∨ q = 6 ∨ q = 7 ∨ q = 8 ∨ q = 9 ∨ q = 10 ∨ q = 11 ∨ q = 12 ∨ q = 13 ∨ q = 14 ∨ q = 15 ∨ q = 16 ∨ q = 17 ∨ q = 18 ∨ q = 19 ∨ q = 20 ∨ q = 21 ∨ q = 22 ∨ q = 23 ∨ q = 24 ∨ q = 25 ∨ q = 26 ∨ q = 27 ∨ q = 28 ∨ q = 29 ∨ q = 30 ∨ q = 31 := by omega
  rcases all with rfl | rfl | rfl | rfl | rfl | rfl | rfl | rfl | rfl | rfl | rfl | rfl | rfl | rfl | rfl | rfl | rfl | rfl | rfl | rfl | rfl | rfl | rfl | rfl | rfl | rfl | rfl | rfl | rfl | rfl | rfl | rfl
  all_goals
    first
      | (refine ⟨?_, fun h => ?_⟩ <;> first | rfl | (exact absurd h Bool.false_ne_true))
      | (refine ⟨?_, ?_⟩
         · simp (config := { decide := true }) [tOk, tTold, tDouble, tLoad, tStore, tPutI, tSwaps, tArith, tAlone, tBranch, tOnly, tRegs, szT, atomB, swapB, offB, secF, Wh.zero, wOk, waW, arW, arOk, arOff, ariths, inB, meW, meOk, otW, otOk, others, jumps, brW, brOk, szL, szG, szS, szP, szFrom, onlyB] <;> (try rw [Bool.eq_iff_iff]) <;> (try simp) <;> (repeat' split) <;> (try omega) <;> (try simp_all) <;> (try omega)
         · simp (config := { decide := true }) [tOk, tTold, tDouble, tLoad, tStore, tPutI, tSwaps, tArith, tAlone, tBranch, tOnly, tRegs, szT, atomB, swapB, offB, secF, Wh.zero, wOk, waW, arW, arOk, arOff, ariths, inB, meW, meOk, otW, otOk, others, jumps, brW, brOk, szL, szG, szS, szP, szFrom, onlyB] <;> (try (intros; simp_all)) <;> (repeat' split) <;> (try omega) <;> (try simp_all) <;> (try omega))

theorem told_same (x : Ins) (hx : x.ok) : tOk x = wOk x ∧ (wOk x = true → (tTold x).1 = waW x) := by
  have h : x.op % 8 = 0 ∨ x.op % 8 = 1 ∨ x.op % 8 = 2 ∨ x.op % 8 = 3 ∨ x.op % 8 = 4 ∨ x.op % 8 = 5 ∨ x.op % 8 = 6 ∨ x.op % 8 = 7 := by omega
  rcases h with h | h | h | h | h | h | h | h
  · exact told_c0 x hx h
  · exact told_c1 x hx h
  · exact told_c2 x hx h
  · exact told_c3 x hx h
  · exact told_c4 x hx h
  · exact told_c5 x hx h
  · exact told_c6 x hx h
  · exact told_c7 x hx h

end Go.Proofs.YtfniahmfoigceaaGreat
