/-
  Texts, one behind the other: MachRep, CodeHalf, CodeStarts, CodeRows, CodeChk, CodeEnc, CodeRun, MachOk.
  Conditions: those that each theorem states.
-/
import Derived.Test.YtlbhffdpklbhfaaGreatPz6
import Derived.Test.YtlbhffdpklbhfaaGreatPz14
import Derived.Test.YtlbhffdpklbhfaaGreatPz2
import Derived.Test.YtlbhffdpklbhfaaGreatPz1
namespace Go.Proofs.YtlbhffdpklbhfaaGreat
open Go Go.RowKit
set_option maxRecDepth 100000
set_option linter.unusedVariables false
set_option linter.unusedSimpArgs false
structure CR where
  c : Cl
  ka : Option Addr
  kc : Nat
  va : Option Addr
  vc : Nat
  na : Option Addr
  nc : Nat
def CR.zero : CR := ⟨Cl.zero, none, 0, none, 0, none, 0⟩
def crAt (L : List CR) (k : Nat) : CR := L.getD k CR.zero
def cCR (r : CR) : List Value := [.int .i64 r.c.id, .int .i64 r.c.map, .slice r.ka r.c.k.length r.kc, .slice r.va r.c.v.length r.vc, .slice r.na r.c.n.length r.nc, .int .u64 r.c.ret]
def crC (L : List CR) : List Value := L.flatMap cCR
theorem crC_len (l : List CR) : (crC l).length = l.length * 6 := by
  induction l with
  | nil => rfl
  | cons x l ih =>
    show (cCR x ++ crC l).length = _
    rw [List.length_append, ih]
    simp [cCR]
    omega
theorem crC_app (a b : List CR) : crC (a ++ b) = crC a ++ crC b := by simp [crC]
theorem crC_at (L : List CR) (k r : Nat) (h : k < L.length) (hr : r < 6) : (crC L)[k * 6 + r]? = (cCR (crAt L k))[r]? := by
  induction L generalizing k with
  | nil => simp at h
  | cons x l ih =>
    have e : crC (x :: l) = cCR x ++ crC l := rfl
    have hx : (cCR x).length = 6 := rfl
    cases k with
    | zero =>
      rw [e, List.getElem?_append_left (by rw [hx]; omega)]
      simp [crAt]
    | succ k =>
      rw [e, List.getElem?_append_right (by rw [hx]; omega), hx]
      have := ih k (by simpa using h)
      rw [show (k + 1) * 6 + r - 6 = k * 6 + r by omega, this]
      simp [crAt]
structure CRS (u : World) (r : CR) : Prop where
  k : BytS u r.ka r.c.k
  v : BytS u r.va r.c.v
  n : NumS u r.na r.c.n
def Cl.ok (c : Cl) : Prop := OkB c.k ∧ OkB c.v ∧ OkN c.n ∧ c.k.length ≤ 1024 ∧ c.v.length ≤ 1024 ∧ c.n.length ≤ 8 ∧ (0 ≤ c.ret ∧ c.ret ≤ 18446744073709551615) ∧ (0 ≤ c.id ∧ c.id ≤ 8) ∧ (0 ≤ c.map ∧ c.map ≤ 1000)
structure CR.ok (r : CR) : Prop where
  c : r.c.ok
  k : r.c.k.length ≤ r.kc ∧ r.kc ≤ maxLen
  v : r.c.v.length ≤ r.vc ∧ r.vc ≤ maxLen
  n : r.c.n.length ≤ r.nc ∧ r.nc ≤ maxLen
structure XA where
  al : Option Addr
  cl : Nat
  ad : Option Addr
  cd : Nat
  gm : Nat
  gt : Nat
  ar : Option Addr
  cr : Nat
  vc : Value
  L : List CR
def rC (r : List (Int × Bool)) : List Value := r.flatMap fun p => [.int .u64 p.1, .bool p.2]
def xH (A : XA) (S : MS) : List Value := [.slice A.al S.l.length A.cl, .slice A.ad S.D.length A.cd, .pointer (some ⟨A.gm, 0, none⟩), .pointer (some ⟨A.gt, 0, none⟩), .slice A.ar S.dr.length A.cr]
def xT (A : XA) (S : MS) : List Value := [.int .i64 S.at_, .bool S.over, .int .i64 S.why, .int .i64 S.steps, A.vc]
def xC (A : XA) (S : MS) : List Value := xH A S ++ (rC S.r ++ xT A S)
structure XLies (A : XA) (S : MS) (u : World) : Prop where
  l : InsS u A.al S.l
  d : DefS u A.ad S.D
  r : NumS u A.ar S.dr
  c : ∀ k, k < A.L.length → CRS u (crAt A.L k)
structure XA.ok (A : XA) (S : MS) : Prop where
  l : S.l.length ≤ A.cl ∧ A.cl ≤ maxLen
  d : S.D.length ≤ A.cd ∧ A.cd ≤ maxLen
  r : S.dr.length ≤ A.cr ∧ A.cr ≤ maxLen
  c : ∀ k, k < A.L.length → (crAt A.L k).ok
  L : A.L.map (·.c) = S.calls
structure MS.ok (S : MS) : Prop where
  l : OkAll S.l
  chk : (chk S.l).2 = 0
  at_ : S.at_ < S.l.length ∧ stAt S.l S.at_ = true
  n : S.r.length = 11
  r : ∀ i, i < 11 → 0 ≤ (rg S.r i).1 ∧ (rg S.r i).1 ≤ 18446744073709551615
  D : S.D.length ≤ 8 ∧ S.T.length = S.D.length ∧ (∀ i, i < S.D.length → (mt S.T i).d = dAt S.D i) ∧ S.D.all Df.good = true
  dr : OkN S.dr ∧ S.dr.length ≤ 100000
  steps : S.calls.length ≤ S.steps + 1 ∧ S.M.length ≤ 20001 + S.steps
def MS.go (S : MS) : Prop := S.calls.length ≤ S.steps ∧ S.M.length ≤ 20000 + S.steps ∧ S.steps ≤ 50000
def sysB (g : Nat) (cs : Array Value) (t : TypeId) : Sys := ⟨fun w F => Blk g cs t w ∧ ∀ x, F x ↔ x = g,
  fun h hs => ⟨Blk.same h.1 (hs g ((h.2 g).2 rfl)), h.2⟩, fun h c => by rw [(h.2 _).1 c]; exact Blk.lt h.1⟩
theorem lt_same {w w' : World} {x : Nat} (h : x < w.heap.size) (hs : w'.heap[x]? = w.heap[x]?) : x < w'.heap.size := by
  rcases Nat.lt_or_ge x w'.heap.size with c | c
  · exact c
  · rw [Array.getElem?_eq_none c, Array.getElem?_eq_getElem h] at hs
    cases hs
def sysL (Φ : World → Prop) : Sys := ⟨fun w K => (∀ x, K x → x < w.heap.size) ∧ ∀ w', (∀ x, K x → w'.heap[x]? = w.heap[x]?) → Φ w',
  fun h hs => ⟨fun x hx => lt_same (h.1 x hx) (hs x hx), fun w' hw' => h.2 w' (fun x hx => (hw' x hx).trans (hs x hx))⟩, fun h c => h.1 _ c⟩
def sysX (g : Nat) (S : MS) : Sys := ⟨fun w H => S.ok ∧ ∃ A : XA, A.ok S ∧ (sysP (sysB g (xC A S).toArray 80) (sysP (sysT A.gt A.gm S.T S.M) (sysP (sysL (XLies A S)) (sysR 0 59 6 A.vc S.calls.length (crC A.L))))).R w H,
  fun h hs => ⟨h.1, by
    obtain ⟨A, h1, h2⟩ := h.2
    exact ⟨A, h1, Sys.keep _ h2 hs⟩⟩, fun h c => by
    obtain ⟨_, A, h1, h2⟩ := h
    exact Sys.lt _ h2 c⟩
theorem Sys.after (X : Sys) {w u : World} {H : Nat → Prop} (h : X.R w H) (b : Below w.heap.size w u) : X.R u H := X.keep h fun x hx => b.block x (X.lt h hx)
theorem rC_len (r : List (Int × Bool)) : (rC r).length = r.length * 2 := by
  induction r with
  | nil => rfl
  | cons x l ih =>
    show ([Value.int .u64 x.1, Value.bool x.2] ++ rC l).length = _
    rw [List.length_append, ih]
    simp
    omega
theorem rC_at (r : List (Int × Bool)) (k : Nat) (h : k < r.length) : (rC r)[k * 2]? = some (.int .u64 (rg r k).1) ∧ (rC r)[k * 2 + 1]? = some (.bool (rg r k).2) := by
  induction r generalizing k with
  | nil => simp at h
  | cons x l ih =>
    have e : rC (x :: l) = [Value.int .u64 x.1, Value.bool x.2] ++ rC l := rfl
    cases k with
    | zero => rw [e]; simp [rg]
    | succ k =>
      obtain ⟨h1, h2⟩ := ih k (by simpa using h)
      rw [e, List.getElem?_append_right (by simp; omega), List.getElem?_append_right (by simp; omega)]
      simp only [List.length_cons, List.length_nil]
      rw [show (k + 1) * 2 - (0 + 1 + 1) = k * 2 by omega, show (k + 1) * 2 + 1 - (0 + 1 + 1) = k * 2 + 1 by omega, h1, h2]
      simp [rg]
theorem rC_set (r : List (Int × Bool)) (k : Nat) (h : k < r.length) (n : Int) (b : Bool) : ((rC r).set (k * 2) (.int .u64 n)).set (k * 2 + 1) (.bool b) = rC (r.set k (n, b)) := by
  induction r generalizing k with
  | nil => simp at h
  | cons x l ih =>
    have e : rC (x :: l) = Value.int .u64 x.1 :: Value.bool x.2 :: rC l := rfl
    cases k with
    | zero => rw [e]; rfl
    | succ k =>
      rw [e, show (k + 1) * 2 = (k * 2) + 1 + 1 by omega]
      simp only [List.set_cons_succ]
      rw [ih k (by simpa using h)]
      rfl
section
variable {w : World} {g : Nat} {A : XA} {S : MS} {t : TypeId}
theorem xc_head (h : Blk g (xC A S).toArray t w) :
    w.cell? ⟨g, 0, none⟩ = some (.slice A.al S.l.length A.cl) ∧ w.cell? ⟨g, 1, none⟩ = some (.slice A.ad S.D.length A.cd) ∧ w.cell? ⟨g, 2, none⟩ = some (.pointer (some ⟨A.gm, 0, none⟩)) ∧ w.cell? ⟨g, 3, none⟩ = some (.pointer (some ⟨A.gt, 0, none⟩)) ∧ w.cell? ⟨g, 4, none⟩ = some (.slice A.ar S.dr.length A.cr) := by
  refine ⟨?_, ?_, ?_, ?_, ?_⟩ <;> (rw [Blk.cell h]; simp [xC, xH])
theorem xc_tail (h : Blk g (xC A S).toArray t w) (hn : S.r.length = 11) :
    w.cell? ⟨g, 27, none⟩ = some (.int .i64 S.at_) ∧ w.cell? ⟨g, 28, none⟩ = some (.bool S.over) ∧ w.cell? ⟨g, 29, none⟩ = some (.int .i64 S.why) ∧ w.cell? ⟨g, 30, none⟩ = some (.int .i64 S.steps) ∧ w.cell? ⟨g, 31, none⟩ = some A.vc := by
  have hl : (rC S.r).length = 22 := by rw [rC_len, hn]
  have q : ∀ j, j < 5 → (xC A S)[27 + j]? = (xT A S)[j]? := fun j hj => by
    unfold xC
    rw [List.getElem?_append_right (by simp [xH]; omega), List.getElem?_append_right (by rw [hl]; simp [xH]; omega), hl]
    congr 1
    simp [xH]
    omega
  refine ⟨?_, ?_, ?_, ?_, ?_⟩
  · rw [Blk.cell h, List.getElem?_toArray, q 0 (by omega)]; rfl
  · rw [Blk.cell h, List.getElem?_toArray, q 1 (by omega)]; rfl
  · rw [Blk.cell h, List.getElem?_toArray, q 2 (by omega)]; rfl
  · rw [Blk.cell h, List.getElem?_toArray, q 3 (by omega)]; rfl
  · rw [Blk.cell h, List.getElem?_toArray, q 4 (by omega)]; rfl
theorem xc_reg (h : Blk g (xC A S).toArray t w) (hn : S.r.length = 11) (i : Nat) (hi : i < 11) :
    w.cell? ⟨g, 5 + i * 2, none⟩ = some (.int .u64 (rg S.r i).1) ∧ w.cell? ⟨g, 5 + i * 2 + 1, none⟩ = some (.bool (rg S.r i).2) := by
  have hl : (rC S.r).length = 22 := by rw [rC_len, hn]
  obtain ⟨h1, h2⟩ := rC_at S.r i (by omega)
  constructor
  · rw [Blk.cell h, List.getElem?_toArray, ← h1]
    unfold xC
    rw [List.getElem?_append_right (by simp [xH] <;> omega), List.getElem?_append_left (by rw [hl]; simp [xH] <;> omega)]
    congr 1
    simp [xH] <;> omega
  · rw [Blk.cell h, List.getElem?_toArray, ← h2]
    unfold xC
    rw [List.getElem?_append_right (by simp [xH] <;> omega), List.getElem?_append_left (by rw [hl]; simp [xH] <;> omega)]
    congr 1
    simp [xH] <;> omega
end
end Go.Proofs.YtlbhffdpklbhfaaGreat
namespace Go.Proofs.YtlbhffdpklbhfaaGreat
open Go Go.RowKit
set_option linter.unusedVariables false
def zeroB (y : Ins) (imm : Bool) : Bool := y.op == 0 && (y.dst == 0 && (y.src == 0 && (y.off == 0 && (imm || y.imm == 0))))
def hfB (l : List Ins) (k : Nat) (kd : Int) : Bool :=
  if kd == 3 || kd == 4 then decide (k + 1 < l.length) && zeroB (iAt l (k + 1)) (kd == 3)
  else true
theorem halfB_eq (l : List Ins) (k : Nat) : halfB l k = hfB l k (wOf (iAt l k)).kind := by
  unfold halfB hfB zeroB
  simp only [Bool.and_assoc]
theorem sts_len (b : Bool) (l : List Ins) : (sts b l).length = l.length := by
  induction l generalizing b with
  | nil => cases b <;> rfl
  | cons x l ih => cases b <;> simp [sts, ih]
def begins (l : List Ins) (p : Nat) : Prop := (sts false l).drop p = sts false (l.drop p)
theorem begins_zero (l : List Ins) : begins l 0 := rfl
theorem begins_step {l : List Ins} {p : Nat} (h : begins l p) (hp : p < l.length) :
    (sts false l)[p]? = some true ∧ begins l (nxt l p) ∧ ((iAt l p).op = 24 → (sts false l)[p + 1]? ≠ some true) := by
  have hd : l.drop p = iAt l p :: l.drop (p + 1) := by
    rw [List.drop_eq_getElem_cons hp]
    unfold iAt
    rw [List.getD_eq_getElem?_getD, List.getElem?_eq_getElem hp, Option.getD_some]
  unfold begins at *
  rw [hd] at h
  have h0 : (sts false l).drop p = true :: sts ((iAt l p).op == 24) (l.drop (p + 1)) := h
  have h1 : (sts false l).drop (p + 1) = sts ((iAt l p).op == 24) (l.drop (p + 1)) := by
    have := congrArg List.tail h0
    rw [List.tail_drop] at this
    exact this
  refine ⟨?_, ?_, ?_⟩
  · have := congrArg (fun q => q[0]?) h0
    simpa using this
  · unfold nxt
    by_cases h24 : (iAt l p).op = 24
    · rw [if_pos h24]
      rw [beq_iff_eq.mpr h24] at h1
      have h2 : (sts false l).drop (p + 2) = (sts true (l.drop (p + 1))).tail := by
        rw [← h1, List.tail_drop]
      rw [h2]
      have h3 : l.drop (p + 2) = (l.drop (p + 1)).tail := by rw [List.tail_drop]
      rw [h3]
      cases l.drop (p + 1) with
      | nil => rfl
      | cons y t => rfl
    · rw [if_neg h24]
      rw [beq_false_of_ne h24] at h1
      exact h1
  · intro h24
    rw [beq_iff_eq.mpr h24] at h1
    have h2 : (sts false l)[p + 1]? = (sts true (l.drop (p + 1)))[0]? := by
      rw [← h1, List.getElem?_drop]
    rw [h2]
    cases l.drop (p + 1) with
    | nil => simp [sts]
    | cons y t => simp [sts]
def stTo (l : List Ins) (p : Nat) : List Bool := (sts false l).mapIdx fun j b => b && decide (j < p)
theorem stTo_len (l : List Ins) (p : Nat) : (stTo l p).length = l.length := by unfold stTo; rw [List.length_mapIdx, sts_len]
theorem stTo_at (l : List Ins) (p j : Nat) : (stTo l p)[j]? = ((sts false l)[j]?).map fun b => b && decide (j < p) := by unfold stTo; rw [List.getElem?_mapIdx]
theorem stTo_zero (l : List Ins) : stTo l 0 = List.replicate l.length false := by
  apply List.ext_getElem?
  intro j
  rw [stTo_at, List.getElem?_replicate]
  by_cases h : j < l.length
  · rw [List.getElem?_eq_getElem (by rw [sts_len]; exact h), if_pos h]
    simp
  · rw [List.getElem?_eq_none (by rw [sts_len]; omega), if_neg h]
    rfl
theorem stTo_all (l : List Ins) {p : Nat} (h : l.length ≤ p) : stTo l p = sts false l := by
  apply List.ext_getElem?
  intro j
  rw [stTo_at]
  by_cases hj : j < l.length
  · rw [List.getElem?_eq_getElem (by rw [sts_len]; exact hj), Option.map_some, decide_eq_true (by omega), Bool.and_true]
  · rw [List.getElem?_eq_none (by rw [sts_len]; omega)]
    rfl
theorem stTo_set {l : List Ins} {p : Nat} (h : begins l p) (hp : p < l.length) : (stTo l p).set p true = stTo l (nxt l p) := by
  obtain ⟨h1, _, h3⟩ := begins_step h hp
  have hn := nxt_lt l p
  apply List.ext_getElem?
  intro j
  rw [List.getElem?_set, stTo_len, stTo_at, stTo_at]
  by_cases hj : p = j
  · subst hj
    rw [if_pos rfl, if_pos hp, h1, Option.map_some, decide_eq_true hn]
    rfl
  · rw [if_neg hj]
    by_cases hl : j < l.length
    · rw [List.getElem?_eq_getElem (by rw [sts_len]; exact hl), Option.map_some, Option.map_some]
      congr 1
      by_cases hlt : j < p
      · rw [decide_eq_true hlt, decide_eq_true (by omega)]
      · rw [decide_eq_false hlt, Bool.and_false]
        by_cases hl2 : j < nxt l p
        · have e : j = p + 1 ∧ (iAt l p).op = 24 := by
            unfold nxt at hl2
            split at hl2
            · exact ⟨by omega, ‹_›⟩
            · omega
          obtain ⟨rfl, e2⟩ := e
          have h4 := h3 e2
          have hl' : p + 1 < (sts false l).length := by rw [sts_len]; exact hl
          rw [List.getElem?_eq_getElem hl'] at h4
          cases hb : (sts false l)[p + 1]'hl'
          · rfl
          · rw [hb] at h4
            exact absurd rfl h4
        · rw [decide_eq_false hl2, Bool.and_false]
    · rw [List.getElem?_eq_none (by rw [sts_len]; omega)]
      rfl
end Go.Proofs.YtlbhffdpklbhfaaGreat
namespace Go.Proofs.YtlbhffdpklbhfaaGreat
open Go Go.RowKit
set_option linter.unusedVariables false
set_option linter.unusedSimpArgs false
theorem wide_kind {x : Ins} (h : wOk x = true) : ((wOf x).kind == 3 || (wOf x).kind == 4) = (x.op == 24) := by
  unfold wOf
  rw [if_pos h]
  unfold wOk at h
  unfold waW
  split
  · rename_i hh
    rw [if_pos hh] at h
    exact absurd h Bool.false_ne_true
  · rename_i hh
    rw [if_neg hh] at h
    clear hh
    split
    · rename_i ho
      unfold otW
      by_cases h24 : x.op = 24
      · rw [h24]
        by_cases h0 : x.src = 0
        · simp [h0]
        · simp [h0]
      · have e : (x.op == 24) = false := beq_false_of_ne h24
        rw [e]
        simp only [h24, beq_iff_eq, if_false]
        repeat' split
        all_goals first | rfl | contradiction
    · rename_i ho
      rw [if_neg ho] at h
      have e : (x.op == 24) = false := by
        cases hh : (x.op == 24)
        · rfl
        · rw [beq_iff_eq] at hh
          exact absurd (by unfold others inB; rw [hh]; rfl) ho
      rw [e]
      split
      · rfl
      · rename_i h1
        rw [if_neg h1] at h
        split
        · rfl
        · rename_i h2
          rw [if_neg h2] at h
          unfold meOk at h
          unfold meW
          repeat' split
          all_goals first | rfl | (exact absurd h (by simp [*]))
theorem whole_eq (l : List Ins) (k : Nat) : (!bad1 l k) = (wOk (iAt l k) && (!((iAt l k).op == 24) || (decide (k + 1 < l.length) && zeroB (iAt l (k + 1)) ((wOf (iAt l k)).kind == 3)))) := by
  unfold bad1
  rw [halfB_eq]
  unfold hfB
  cases h : wOk (iAt l k)
  · rfl
  · rw [wide_kind h]
    cases (iAt l k).op == 24 <;> simp
def fs (l : List Ins) (P : Nat → Bool) (j : Nat) : Option Nat :=
  if h : j < l.length then (if stAt l j && P j then some j else fs l P (j + 1)) else none
  termination_by l.length - j
theorem fs_in {l : List Ins} {P : Nat → Bool} {j : Nat} (h : j < l.length) : fs l P j = if stAt l j && P j then some j else fs l P (j + 1) := by rw [fs, dif_pos h]
theorem fs_out {l : List Ins} {P : Nat → Bool} {j : Nat} (h : ¬ j < l.length) : fs l P j = none := by rw [fs, dif_neg h]
theorem stAt_of {l : List Ins} {k : Nat} {b : Bool} (h : (sts false l)[k]? = some b) : stAt l k = b := by
  unfold stAt
  rw [List.getD_eq_getElem?_getD, h]
  rfl
theorem stAt_get {l : List Ins} {k : Nat} (h : k < l.length) : (sts false l)[k]? = some (stAt l k) := by
  have hl : k < (sts false l).length := by rw [sts_len]; exact h
  unfold stAt
  rw [List.getD_eq_getElem?_getD, List.getElem?_eq_getElem hl]
  rfl
theorem stAt_out {l : List Ins} {k : Nat} (h : ¬ k < l.length) : stAt l k = false := by
  unfold stAt
  rw [List.getD_eq_getElem?_getD, List.getElem?_eq_none (by rw [sts_len]; omega)]
  rfl
theorem begins_at {l : List Ins} {k : Nat} (h : begins l k) (hk : k < l.length) : stAt l k = true := stAt_of (begins_step h hk).1
theorem begins_half {l : List Ins} {k : Nat} (h : begins l k) (hk : k < l.length) (h24 : (iAt l k).op = 24) : stAt l (k + 1) = false := by
  by_cases hl : k + 1 < l.length
  · have h3 := (begins_step h hk).2.2 h24
    rw [stAt_get hl] at h3
    cases hb : stAt l (k + 1)
    · rfl
    · rw [hb] at h3
      exact absurd rfl h3
  · exact stAt_out hl
theorem fs_eq_fb (l : List Ins) (P : Nat → Bool) : ∀ (n k : Nat), l.length - k ≤ n → begins l k → fs l P k = fb l P k := by
  intro n
  induction n with
  | zero =>
    intro k hn hb
    rw [fs_out (by omega), fb_out (by omega)]
  | succ n ih =>
    intro k hn hb
    by_cases hk : k < l.length
    · obtain ⟨_, h2, _⟩ := begins_step hb hk
      rw [fs_in hk, fb_in hk, begins_at hb hk, Bool.true_and]
      have hlt := nxt_lt l k
      have hr := ih (nxt l k) (by omega) h2
      by_cases hp : P k = true
      · rw [if_pos hp, if_pos hp]
      · rw [if_neg hp, if_neg hp, ← hr]
        unfold nxt
        by_cases h24 : (iAt l k).op = 24
        · rw [if_pos h24]
          by_cases hl : k + 1 < l.length
          · rw [fs_in hl, begins_half hb hk h24]
            rfl
          · rw [fs_out hl, fs_out (by omega)]
        · rw [if_neg h24]
    · rw [fs_out hk, fb_out hk]
theorem fs_zero (l : List Ins) (P : Nat → Bool) : fs l P 0 = fb l P 0 := fs_eq_fb l P _ 0 (Nat.le_refl _) (begins_zero l)
theorem lst_at (l : List Ins) : ∀ (n k d : Nat), l.length - k ≤ n → begins l k → k < l.length →
    lst l k d = (if stAt l (l.length - 1) then l.length - 1 else l.length - 2) ∧ stAt l (lst l k d) = true ∧ lst l k d < l.length ∧ l.length ≤ nxt l (lst l k d) := by
  intro n
  induction n with
  | zero => intro k d hn hb hk; omega
  | succ n ih =>
    intro k d hn hb hk
    obtain ⟨_, h2, _⟩ := begins_step hb hk
    have hlt := nxt_lt l k
    have hle := nxt_le l k
    rw [lst_in hk]
    by_cases hn2 : nxt l k < l.length
    · exact ih (nxt l k) k (by omega) h2 hn2
    · rw [lst_out hn2]
      refine ⟨?_, begins_at hb hk, hk, by omega⟩
      unfold nxt at hn2
      by_cases h24 : (iAt l k).op = 24
      · rw [if_pos h24] at hn2
        by_cases hl : k + 1 < l.length
        · have e : l.length - 1 = k + 1 := by omega
          rw [e, begins_half hb hk h24, if_neg Bool.false_ne_true]
          omega
        · have e : l.length - 1 = k := by omega
          rw [e, begins_at hb hk, if_pos rfl]
      · rw [if_neg h24] at hn2
        have e : l.length - 1 = k := by omega
        rw [e, begins_at hb hk, if_pos rfl]
theorem lst_zero {l : List Ins} (h : 0 < l.length) :
    lst l 0 0 = (if stAt l (l.length - 1) then l.length - 1 else l.length - 2) ∧ stAt l (lst l 0 0) = true ∧ lst l 0 0 < l.length ∧ l.length ≤ nxt l (lst l 0 0) := lst_at l _ 0 0 (Nat.le_refl _) (begins_zero l) h
end Go.Proofs.YtlbhffdpklbhfaaGreat
namespace Go.Proofs.YtlbhffdpklbhfaaGreat
open Go Go.RowKit
set_option linter.unusedVariables false
def fitsB (n : Int) : Bool := decide (0 < n) && decide (n ≤ 512)
theorem chk_size {l : List Ins} (h : fitsB l.length = false) : chk l = (0, 70) := by
  unfold chk
  rw [if_pos]
  unfold fitsB at h
  by_cases h0 : (0 : Int) < l.length
  · rw [decide_eq_true h0, Bool.true_and] at h
    have := of_decide_eq_false h
    omega
  · omega
theorem fits_len {l : List Ins} (h : fitsB l.length = true) : 0 < l.length ∧ l.length ≤ 512 := by
  unfold fitsB at h
  simp only [Bool.and_eq_true, decide_eq_true_eq] at h
  omega
theorem chk_insn {l : List Ins} {k : Nat} (h : fitsB l.length = true) (h1 : fs l (bad1 l) 0 = some k) : chk l = ((k : Int), 71) := by
  have := fits_len h
  unfold chk
  rw [if_neg (by omega), ← fs_zero, h1]
theorem chk_jump {l : List Ins} {k : Nat} (h : fitsB l.length = true) (h1 : fs l (bad1 l) 0 = none) (h2 : fs l (bad2 l) 0 = some k) : chk l = ((k : Int), 72) := by
  have := fits_len h
  unfold chk
  rw [if_neg (by omega), ← fs_zero, h1]
  simp only
  rw [← fs_zero, h2]
theorem chk_end {l : List Ins} (h : fitsB l.length = true) (h1 : fs l (bad1 l) 0 = none) (h2 : fs l (bad2 l) 0 = none) :
    chk l = if ends (iAt l (lst l 0 0)) then (0, 0) else (((lst l 0 0 : Nat) : Int), 73) := by
  have := fits_len h
  unfold chk
  rw [if_neg (by omega), ← fs_zero, h1]
  simp only
  rw [← fs_zero, h2]
theorem fs_skip {l : List Ins} {P : Nat → Bool} {j : Nat} (hj : j < l.length) (h : (stAt l j && P j) = false) : fs l P (j + 1) = fs l P j := by
  rw [fs_in hj, h, if_neg Bool.false_ne_true]
theorem fs_found {l : List Ins} {P : Nat → Bool} {j : Nat} (hj : j < l.length) (h1 : stAt l j = true) (h2 : P j = true) : fs l P j = some j := by
  rw [fs_in hj, h1, h2]
  rfl
end Go.Proofs.YtlbhffdpklbhfaaGreat
namespace Go.Proofs.YtlbhffdpklbhfaaGreat
open Go Go.RowKit
set_option maxRecDepth 100000
set_option linter.unusedVariables false
set_option linter.unusedSimpArgs false
theorem fs_none {l : List Ins} {P : Nat → Bool} : ∀ (n j : Nat), l.length - j ≤ n → fs l P j = none → ∀ k, j ≤ k → k < l.length → stAt l k = true → P k = false := by
  intro n
  induction n with
  | zero => intro j hj h k h1 h2; omega
  | succ n ih =>
    intro j hj h k h1 h2 hs
    rw [fs_in (by omega)] at h
    by_cases hp : (stAt l j && P j) = true
    · rw [if_pos hp] at h
      cases h
    · rw [if_neg hp] at h
      by_cases hjk : j = k
      · subst hjk
        cases hpj : P j
        · rfl
        · exact absurd (by rw [hs, hpj]; rfl) hp
      · exact ih (j + 1) (by omega) h k (by omega) h2 hs
theorem chk_ok {l : List Ins} (h : (chk l).2 = 0) : fitsB l.length = true ∧ (∀ k, k < l.length → stAt l k = true → bad1 l k = false) ∧ (∀ k, k < l.length → stAt l k = true → bad2 l k = false) ∧ ends (iAt l (lst l 0 0)) = true ∧ (chk l).1 = 0 := by
  cases hf : fitsB l.length
  · rw [chk_size hf] at h; cases h
  cases h1 : fs l (bad1 l) 0 with
  | some k => rw [chk_insn hf h1] at h; cases h
  | none =>
    cases h2 : fs l (bad2 l) 0 with
    | some k => rw [chk_jump hf h1 h2] at h; cases h
    | none =>
      have h3 := chk_end hf h1 h2
      refine ⟨rfl, fun k hk hs => fs_none _ 0 (Nat.le_refl _) h1 k (Nat.zero_le _) hk hs, fun k hk hs => fs_none _ 0 (Nat.le_refl _) h2 k (Nat.zero_le _) hk hs, ?_, ?_⟩
      · cases he : ends (iAt l (lst l 0 0))
        · rw [h3, he] at h; cases h
        · rfl
      · cases he : ends (iAt l (lst l 0 0))
        · rw [h3, he] at h; cases h
        · rw [h3, he]; rfl
theorem half_of {l : List Ins} {k : Nat} (hb : bad1 l k = false) (h24 : (iAt l k).op = 24) : k + 1 < l.length ∧ zeroB (iAt l (k + 1)) ((wOf (iAt l k)).kind == 3) = true := by
  have h := whole_eq l k
  rw [hb, beq_iff_eq.mpr h24] at h
  simp only [Bool.not_false, Bool.not_true, Bool.false_or] at h
  have h' := h.symm
  simp only [Bool.and_eq_true, decide_eq_true_eq] at h'
  exact h'.2
theorem whole_ok {l : List Ins} {k : Nat} (hb : bad1 l k = false) : wOk (iAt l k) = true := by
  have h := whole_eq l k
  rw [hb] at h
  have h' := h.symm
  simp only [Bool.not_false, Bool.and_eq_true] at h'
  exact h'.1
theorem sts_begins : ∀ (l : List Ins) (b : Bool) (k : Nat), (sts b l)[k]? = some true → (sts b l).drop k = sts false (l.drop k) := by
  intro l
  induction l with
  | nil => intro b k h; simp [sts] at h
  | cons x t ih =>
    intro b k h
    cases b with
    | true =>
      cases k with
      | zero => simp [sts] at h
      | succ k =>
        have h' : (sts false t)[k]? = some true := by simpa [sts] using h
        have := ih false k h'
        simpa [sts] using this
    | false =>
      cases k with
      | zero => rfl
      | succ k =>
        have h' : (sts (x.op == 24) t)[k]? = some true := by simpa [sts] using h
        have := ih _ k h'
        simpa [sts] using this
theorem begins_of {l : List Ins} {k : Nat} (hk : k < l.length) (h : stAt l k = true) : begins l k := by
  have hs := stAt_get hk
  rw [h] at hs
  exact sts_begins l false k hs
theorem next_in {l : List Ins} (h : (chk l).2 = 0) {k : Nat} (hk : k < l.length) (hs : stAt l k = true) (he : ends (iAt l k) = false) : nxt l k < l.length ∧ stAt l (nxt l k) = true := by
  obtain ⟨hf, h1, h2, h3, _⟩ := chk_ok h
  have hb := begins_of hk hs
  by_cases hn : nxt l k < l.length
  · exact ⟨hn, begins_at (begins_step hb hk).2.1 hn⟩
  · obtain ⟨e1, _, e3, e4⟩ := lst_zero (l := l) (by omega)
    have hkl : k = lst l 0 0 := by
      rw [e1]
      unfold nxt at hn
      by_cases h24 : (iAt l k).op = 24
      · rw [if_pos h24] at hn
        obtain ⟨h5, _⟩ := half_of (h1 k hk hs) h24
        have e : l.length - 1 = k + 1 := by omega
        rw [e, begins_half hb hk h24, if_neg Bool.false_ne_true]
        omega
      · rw [if_neg h24] at hn
        have e : l.length - 1 = k := by omega
        rw [e, hs, if_pos rfl]
    rw [hkl] at he
    rw [he] at h3
    cases h3
theorem target_in {l : List Ins} (h : (chk l).2 = 0) {k : Nat} (hk : k < l.length) (hs : stAt l k = true) :
    tgOk l k = jumpy (iAt l k) ∧ (jumpy (iAt l k) = true → ∃ m : Nat, tgOf l k = m ∧ m < l.length ∧ stAt l m = true) := by
  obtain ⟨_, _, h2, _⟩ := chk_ok h
  have hb := h2 k hk hs
  have e1 : tgOk l k = (jumpy (iAt l k) && inL l (toOf (iAt l k) k)) := by
    unfold tgOk inL
    rw [decide_eq_true (by omega), decide_eq_true (by omega), show ((k : Int)).toNat = k by omega]
    rfl
  unfold bad2 at hb
  cases hj : jumpy (iAt l k)
  · rw [e1, hj]
    exact ⟨rfl, fun h => by cases h⟩
  · rw [hj] at hb
    have hb' : (inL l (toOf (iAt l k) k) && stAt l (toOf (iAt l k) k).toNat) = true := by simpa using hb
    simp only [Bool.and_eq_true] at hb'
    obtain ⟨hi, hst⟩ := hb'
    have e2 : tgOk l k = true := by rw [e1, hj, hi]; rfl
    refine ⟨e2, fun _ => ⟨(toOf (iAt l k) k).toNat, ?_, ?_, hst⟩⟩
    · unfold tgOf
      rw [e2, if_pos rfl, show ((k : Int)).toNat = k by omega]
      unfold inL at hi
      simp only [Bool.and_eq_true, decide_eq_true_eq] at hi
      omega
    · unfold inL at hi
      simp only [Bool.and_eq_true, decide_eq_true_eq] at hi
      omega
theorem first_in {l : List Ins} (h : 0 < l.length) : stAt l 0 = true := begins_at (begins_zero l) h
end Go.Proofs.YtlbhffdpklbhfaaGreat
namespace Go.Proofs.YtlbhffdpklbhfaaGreat
open Go.RowKit
set_option maxRecDepth 100000
set_option linter.unusedVariables false
set_option linter.unusedSimpArgs false
def RegOk (x : Ins) : Prop := (0 ≤ x.dst ∧ x.dst ≤ 10) ∧ (0 ≤ x.src ∧ x.src ≤ 10)
abbrev MS.x (S : MS) : Ins := iAt S.l S.at_
theorem MS.ok.wOk {S : MS} (h : S.ok) : wOk S.x = true := whole_ok ((chk_ok h.chk).2.1 _ h.at_.1 h.at_.2)
theorem MS.ok.xok {S : MS} (h : S.ok) : S.x.ok := h.l _ h.at_.1
theorem reg_ok {x : Ins} (h : wOk x = true) (hx : x.ok) : RegOk x := by
  unfold Go.Proofs.YtlbhffdpklbhfaaGreat.wOk at h
  split at h
  · cases h
  · rename_i hc
    simp only [Bool.or_eq_true, decide_eq_true_eq, not_or] at hc
    obtain ⟨_, h1, h2, _⟩ := hx
    exact ⟨⟨h1.1, by omega⟩, h2.1, by omega⟩
theorem MS.ok.reg {S : MS} (h : S.ok) : RegOk S.x := reg_ok h.wOk h.xok
theorem wOf_of {x : Ins} (h : Go.Proofs.YtlbhffdpklbhfaaGreat.wOk x = true) : wOf x = waW x := by unfold wOf; rw [if_pos h]
theorem kind_long {x : Ins} (h : Go.Proofs.YtlbhffdpklbhfaaGreat.wOk x = true) (hk : (wOf x).kind = 3 ∨ (wOf x).kind = 4) : x.op = 24 := by
  rw [wOf_of h] at hk
  unfold waW at hk
  split at hk
  · simp [Wh.zero] at hk
  · split at hk
    · unfold otW at hk
      split at hk
      · simp at hk
      · split at hk
        · rename_i _ h24
          simpa using h24
        · split at hk
          · simp at hk
          · split at hk
            · simp at hk
            · split at hk
              · simp at hk
              · simp [Wh.zero] at hk
    · split at hk
      · simp [arW] at hk
      · split at hk
        · simp [brW] at hk
        · unfold meW at hk
          split at hk
          · simp at hk
          · split at hk
            · simp at hk
            · split at hk
              · simp at hk
              · split at hk
                · simp at hk
                · simp [Wh.zero] at hk
theorem MS.ok.half {S : MS} (h : S.ok) (hk : (wOf S.x).kind = 3 ∨ (wOf S.x).kind = 4) : S.at_ + 1 < S.l.length :=
  (half_of ((chk_ok h.chk).2.1 _ h.at_.1 h.at_.2) (kind_long h.wOk hk)).1
theorem MS.ok.imm {S : MS} (h : S.ok) (hk : (wOf S.x).kind = 4) : 0 ≤ S.x.imm := by
  have h24 := kind_long h.wOk (.inr hk)
  have hw := h.wOk
  rw [wOf_of hw] at hk
  unfold waW at hk
  unfold Go.Proofs.YtlbhffdpklbhfaaGreat.wOk at hw
  split at hw
  · cases hw
  · rename_i hc
    rw [if_neg hc] at hk
    have hin : inB others S.x.op = true := by rw [h24]; decide
    rw [if_pos hin] at hk hw
    unfold otW at hk
    unfold otOk at hw
    rw [h24] at hk hw
    simp only [show ((24 : Int) == 212) = false from rfl, show ((24 : Int) == 220) = false from rfl, show ((24 : Int) == 215) = false from rfl, Bool.or_false, Bool.false_or, if_neg Bool.false_ne_true, show ((24 : Int) == 24) = true from rfl, if_true] at hk hw
    by_cases hs : (S.x.src == 0) = true
    · rw [if_pos hs] at hk
      simp at hk
    · rw [if_neg hs] at hw
      simp only [Bool.and_eq_true, decide_eq_true_eq] at hw
      exact hw.2
theorem wh_size {x : Ins} : 0 ≤ (meW x).size ∧ (meW x).size ≤ 16 := by
  have a := szFrom_rng [97, 105, 113, 121] x.op
  have c := szFrom_rng [98, 106, 114, 122] x.op
  have d := szFrom_rng [99, 107, 115, 123] x.op
  have b : 0 ≤ szG x.op ∧ szG x.op ≤ 8 := szFrom_rng [129, 137, 145] x.op
  have a' : szL x.op = szFrom [97, 105, 113, 121] [4, 2, 1, 8] x.op := rfl
  have c' : szS x.op = szFrom [98, 106, 114, 122] [4, 2, 1, 8] x.op := rfl
  have d' : szP x.op = szFrom [99, 107, 115, 123] [4, 2, 1, 8] x.op := rfl
  unfold meW
  split
  · dsimp only; omega
  · split
    · dsimp only; omega
    · split
      · dsimp only; omega
      · split
        · dsimp only; split <;> omega
        · simp [Wh.zero]
theorem size_rng {x : Ins} (h : Go.Proofs.YtlbhffdpklbhfaaGreat.wOk x = true) : 0 ≤ (wOf x).size ∧ (wOf x).size ≤ 16 := by
  rw [wOf_of h]
  unfold Go.Proofs.YtlbhffdpklbhfaaGreat.wOk at h
  unfold waW
  split at h
  · cases h
  · rename_i hc
    rw [if_neg hc]
    split
    · rename_i hi
      rw [if_pos hi] at h
      unfold otW
      unfold otOk at h
      split
      · rename_i hq
        rw [if_pos hq] at h
        simp only [Bool.and_eq_true, Bool.or_eq_true, beq_iff_eq] at h
        have hh := h.2
        show 0 ≤ x.imm.tdiv 8 ∧ x.imm.tdiv 8 ≤ 16
        rcases hh with (e | e) | e <;> rw [e] <;> decide
      · split
        · exact ⟨by show (0 : Int) ≤ 0; omega, by show (0 : Int) ≤ 16; omega⟩
        · repeat' split
          all_goals first | exact ⟨by show (0 : Int) ≤ 0; omega, by show (0 : Int) ≤ 16; omega⟩ | (simp [Wh.zero])
    · split
      · simp [arW]
      · split
        · simp [brW]
        · exact wh_size
end Go.Proofs.YtlbhffdpklbhfaaGreat
