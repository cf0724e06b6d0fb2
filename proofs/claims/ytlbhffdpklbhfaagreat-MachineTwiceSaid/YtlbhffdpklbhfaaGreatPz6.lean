/-
  Texts, one behind the other: Ref09d, Ref09c, Ref09e, Ref09f, Ref09g, MachPlain, MapRaw.
  Conditions: those that each theorem states.
-/
import Derived.Laws.AppendOwn
import Derived.Lib.AppendZeros
import Derived.Test.YtlbhffdpklbhfaaGreatPz5
import Derived.Deep.RegionHeld
import Derived.Deep.RegionHeld3
import Derived.LoopTactic
import Derived.Test.YtlbhffdpklbhfaaGreatPz1
import Derived.Deep.DeepCutAuto
import Derived.Deep.RegionLaw
import Derived.Test.YtlbhffdpklbhfaaGreatPz2
import Derived.Maps.OwnSet
namespace Go.Proofs.YtlbhffdpklbhfaaGreat
open Go.RowKit
set_option maxRecDepth 100000
set_option linter.unusedVariables false
set_option linter.unusedSimpArgs false
def leftK (L : List TK) (key : List Int) : List TK := L.filter fun x => !(x.k == key)
theorem leftK_len (L : List TK) (key : List Int) : (leftK L key).length ≤ L.length := List.length_filter_le _ _
theorem leftK_ok {m : TM} (h : m.ok) (key : List Int) : TM.ok ⟨m.d, leftK m.L key, m.made⟩ := by
  obtain ⟨h1, h2, h3, h4, h5⟩ := h
  refine ⟨h1, fun x hx => h2 x (List.mem_filter.1 hx).1, h3.filter _, ?_, h5⟩
  have := leftK_len m.L key
  simp only
  omega
theorem trC_set4 {L : List TR} {k : Nat} (hk : k < L.length) (K : List TK) (v : Value) : trC (L.set k ⟨⟨(trAt L k).m.d, K, (trAt L k).m.made⟩, v⟩) = (trC L).set (k * 6 + 4) v := by
  apply List.ext_getElem?
  intro j
  by_cases hj : j < L.length * 6
  · have e1 : j = (j / 6) * 6 + j % 6 := by omega
    have h1 := trC_at (L.set k ⟨⟨(trAt L k).m.d, K, (trAt L k).m.made⟩, v⟩) (j / 6) (j % 6) (by rw [List.length_set]; omega) (by omega)
    have h2 := trC_at L (j / 6) (j % 6) (by omega) (by omega)
    rw [← e1] at h1 h2
    rw [h1, trAt_set hk, List.getElem?_set]
    by_cases hq : j / 6 = k
    · rw [if_pos hq]
      by_cases hr : j % 6 = 4
      · rw [if_pos (by omega), if_pos (by rw [trC_len]; omega), hr]; rfl
      · rw [if_neg (by omega), h2, hq]
        have : j % 6 = 0 ∨ j % 6 = 1 ∨ j % 6 = 2 ∨ j % 6 = 3 ∨ j % 6 = 5 := by omega
        rcases this with c | c | c | c | c <;> rw [c] <;> rfl
    · rw [if_neg hq, if_neg (by omega), h2]
  · rw [List.getElem?_eq_none (by rw [trC_len, List.length_set]; omega), List.getElem?_eq_none (by rw [List.length_set, trC_len]; omega)]
def Keep (G : Nat → Prop) (w : World) (B : Option Addr) (b : List Int) : Prop := ∀ u, Turn G w u → BytS u B b
theorem keep_of {G : Nat → Prop} {w : World} {B : Option Addr} {b : List Int} (h : BytS w B b) (hG : ∀ g o, B = some ⟨g, o, none⟩ → ¬ G g) : Keep G w B b := fun u t hp => by
  obtain ⟨g, o, e, hg, hc⟩ := h hp
  exact ⟨g, o, e, Nat.lt_of_lt_of_le hg t.size, fun k hk => (World.cell?_of_block (a := ⟨g, o + k, none⟩) (t.block g hg (hG g o e))).trans (hc k hk)⟩
theorem Keep.on {G G' : Nat → Prop} {w w' : World} {B : Option Addr} {b : List Int} (h : Keep G w B b) (t : Turn G w w') (hG : ∀ x, G' x → G x ∨ w.heap.size ≤ x) : Keep G' w' B b := fun u k => h u (t.trans k hG)
theorem Keep.at_ {G : Nat → Prop} {w : World} {B : Option Addr} {b : List Int} (h : Keep G w B b) : BytS w B b := h w (Turn.refl _ _)
theorem tFill_drop (M : PM) (i s : Int) (b : List Int) (j k : Nat) (h : j < b.length) : tFill M i s k (b.drop j) = tFill (pStore M (atI (tArea i s) k) 1 (bAt b j)).1 i s (k + 1) (b.drop (j + 1)) := by
  rw [List.drop_eq_getElem_cons h]
  unfold bAt
  rw [List.getD_eq_getElem?_getD, List.getElem?_eq_getElem h]
  rfl
theorem mem_tIns {L : List TK} {x y : TK} (h : y ∈ tIns L x) : y = x ∨ y ∈ L := by
  unfold tIns at h
  rcases List.mem_append.mp h with c | c
  · exact .inr ((List.takeWhile_sublist _).subset c)
  · rcases List.mem_cons.mp c with c | c
    · exact .inl c
    · exact .inr ((List.dropWhile_sublist _).subset c)
theorem tIns_len (L : List TK) (x : TK) : (tIns L x).length = L.length + 1 := by
  unfold tIns
  have h := congrArg List.length (List.takeWhile_append_dropWhile (p := fun y => kLt y.k x.k) (l := L))
  rw [List.length_append] at h
  rw [List.length_append, List.length_cons]
  omega
theorem tIns_rise {L : List TK} {x : TK} (h : L.Pairwise fun a b => kLt a.k b.k = true) (hx : tFind L x.k = none) : (tIns L x).Pairwise fun a b => kLt a.k b.k = true := by
  have hne : ∀ y ∈ L, y.k ≠ x.k := by
    unfold tFind at hx
    rw [Option.map_eq_none_iff, List.find?_eq_none] at hx
    intro y hy
    simpa using hx y hy
  induction L with
  | nil => simp [tIns]
  | cons y L ih =>
    obtain ⟨h1, h2⟩ := List.pairwise_cons.1 h
    have hx2 : tFind L x.k = none := find_out fun t ht => hne _ (by simp [kAt_mem ht])
    have hne2 : ∀ y ∈ L, y.k ≠ x.k := fun z hz => hne z (by simp [hz])
    cases hy : kLt y.k x.k
    · have hxy : kLt x.k y.k = true := kLt_total hy (hne y (by simp))
      unfold tIns
      rw [List.takeWhile_cons, List.dropWhile_cons, hy]
      simp only [Bool.false_eq_true, if_false, List.nil_append]
      refine List.pairwise_cons.2 ⟨fun z hz => ?_, h⟩
      rcases List.mem_cons.mp hz with rfl | hz
      · exact hxy
      · exact kLt_trans hxy (h1 z hz)
    · have e : tIns (y :: L) x = y :: tIns L x := by
        unfold tIns
        rw [List.takeWhile_cons, List.dropWhile_cons, hy]
        rfl
      rw [e]
      refine List.pairwise_cons.2 ⟨fun z hz => ?_, ih h2 hx2 hne2⟩
      rcases mem_tIns hz with rfl | hz
      · exact hy
      · exact h1 z hz
theorem tIns_ok {m : TM} (h : m.ok) (key : List Int) (hx : tFind m.L key = none) (hk : OkB key) (hl : (key.length : Int) = m.d.key) (hf : ¬ m.d.max ≤ m.L.length) (hm : ¬ 1024 ≤ m.made) : TM.ok ⟨m.d, tIns m.L ⟨key, m.made⟩, m.made + 1⟩ := by
  obtain ⟨h1, h2, h3, h4, h5⟩ := h
  refine ⟨h1, fun x hx => ?_, tIns_rise h3 hx, ?_, by simp only; omega⟩
  · rcases mem_tIns hx with rfl | hx
    · exact ⟨hk, hl, by simp⟩
    · obtain ⟨a, b, c⟩ := h2 x hx
      exact ⟨a, b, by simp only; omega⟩
  · rw [tIns_len]
    simp only
    omega
theorem trC_set5 {L : List TR} {k : Nat} (hk : k < L.length) (K : List TK) (v : Value) (m : Nat) : trC (L.set k ⟨⟨(trAt L k).m.d, K, m⟩, v⟩) = ((trC L).set (k * 6 + 4) v).set (k * 6 + 5) (.int .i64 (m : Int)) := by
  apply List.ext_getElem?
  intro j
  by_cases hj : j < L.length * 6
  · have e1 : j = (j / 6) * 6 + j % 6 := by omega
    have h1 := trC_at (L.set k ⟨⟨(trAt L k).m.d, K, m⟩, v⟩) (j / 6) (j % 6) (by rw [List.length_set]; omega) (by omega)
    have h2 := trC_at L (j / 6) (j % 6) (by omega) (by omega)
    rw [← e1] at h1 h2
    rw [h1, trAt_set hk, List.getElem?_set]
    by_cases hq : j / 6 = k
    · rw [if_pos hq]
      by_cases hr : j % 6 = 5
      · rw [if_pos (by omega), if_pos (by rw [List.length_set, trC_len]; omega), hr]; rfl
      · rw [if_neg (by omega), List.getElem?_set]
        by_cases hr4 : j % 6 = 4
        · rw [if_pos (by omega), if_pos (by rw [trC_len]; omega), hr4]; rfl
        · rw [if_neg (by omega), h2, hq]
          have : j % 6 = 0 ∨ j % 6 = 1 ∨ j % 6 = 2 ∨ j % 6 = 3 := by omega
          rcases this with c | c | c | c <;> rw [c] <;> rfl
    · rw [if_neg hq, if_neg (by omega), List.getElem?_set, if_neg (by omega), h2]
  · rw [List.getElem?_eq_none (by rw [trC_len, List.length_set]; omega), List.getElem?_eq_none (by rw [List.length_set, List.length_set, trC_len]; omega)]
theorem pMake_err (M : PM) (i : Int) (b : List Int) (bl fx : Bool) (h : (pMake M i b bl fx).2 ≠ 0) : (pMake M i b bl fx).1 = M := by
  unfold pMake at *
  split
  · rfl
  · split
    · rfl
    · rename_i h1 h2
      rw [if_neg h1, if_neg h2] at h
      exact absurd rfl h
theorem cell_setCell_off (w : World) (g a b : Nat) (v : Value) (h : b ≠ a) : (w.setCell ⟨g, a, none⟩ v).cell? ⟨g, b, none⟩ = w.cell? ⟨g, b, none⟩ := by
  unfold World.cell? World.setCell
  simp only [Array.getElem?_modify]
  cases hx : w.heap[g]? with
  | none => simp
  | some o => cases o <;> simp <;> (try rw [Array.getElem?_setIfInBounds_ne (by omega)])
def dAt (l : List Df) (k : Nat) : Df := l.getD k Df.zero
def DefS (w : World) (A : Option Addr) (l : List Df) : Prop :=
  0 < l.length → ∃ g o, A = some ⟨g, o, none⟩ ∧ g < w.heap.size ∧ ∀ k, k < l.length → w.cell? ⟨g, o + k * 4, none⟩ = some (.bool (dAt l k).hash) ∧ w.cell? ⟨g, o + k * 4 + 1, none⟩ = some (.int .i64 (dAt l k).key) ∧ w.cell? ⟨g, o + k * 4 + 2, none⟩ = some (.int .i64 (dAt l k).val) ∧ w.cell? ⟨g, o + k * 4 + 3, none⟩ = some (.int .i64 (dAt l k).max)
theorem DefS.after {w w' : World} {A : Option Addr} {l : List Df} (h : DefS w A l) (b : Below w.heap.size w w') : DefS w' A l := fun hl => by
  obtain ⟨g, o, e, hg, hc⟩ := h hl
  have q : ∀ p, w'.cell? ⟨g, p, none⟩ = w.cell? ⟨g, p, none⟩ := fun p => b.cell (p := ⟨g, p, none⟩) hg
  exact ⟨g, o, e, Nat.lt_of_lt_of_le hg b.size, fun k hk => by rw [q, q, q, q]; exact hc k hk⟩
theorem all_from {l : List Df} (h : ∀ t, t < l.length → (dAt l t).good = true) : l.all Df.good = true := by
  rw [List.all_eq_true]
  intro x hx
  obtain ⟨i, hi, rfl⟩ := List.mem_iff_getElem.mp hx
  have := h i hi
  unfold dAt at this
  rw [List.getD_eq_getElem?_getD, List.getElem?_eq_getElem hi] at this
  exact this
theorem all_not {l : List Df} {j : Nat} (hj : j < l.length) (h : (dAt l j).good = false) : l.all Df.good = false := by
  cases hx : l.all Df.good
  · rfl
  · rw [List.all_eq_true] at hx
    have := hx (dAt l j) (by unfold dAt; rw [List.getD_eq_getElem?_getD, List.getElem?_eq_getElem hj]; exact List.getElem_mem hj)
    rw [h] at this
    cases this
end Go.Proofs.YtlbhffdpklbhfaaGreat
namespace Go.Proofs.YtlbhffdpklbhfaaGreat
open Go Go.RowKit
set_option maxRecDepth 100000
set_option linter.unusedVariables false
set_option linter.unusedSimpArgs false
structure Cl where
  id : Int
  map : Int
  k : List Int
  v : List Int
  n : List Int
  ret : Int
def Cl.zero : Cl := ⟨0, 0, [], [], [], 0⟩
structure MS where
  l : List Ins
  D : List Df
  T : TT
  M : PM
  dr : List Int
  r : List (Int × Bool)
  at_ : Nat
  over : Bool
  why : Int
  steps : Nat
  calls : List Cl
def rg (r : List (Int × Bool)) (i : Nat) : Int × Bool := r.getD i (0, false)
def rd (S : MS) (i : Int) : Int × Int := if (rg S.r i.toNat).2 then ((rg S.r i.toNat).1, 0) else (0, 110)
def setR (S : MS) (i n : Int) : MS := { S with r := S.r.set i.toNat (n, true) }
def mSec (S : MS) (x : Ins) (v : Wh) : Int × Int := if v.reg then rd S x.src else (x.imm % 18446744073709551616, 0)
def mFst (S : MS) (x : Ins) (v : Wh) : Int × Int := if v.op == 176 then (0, 0) else rd S x.dst
def wordI (i : Int) : Int := atI 3 i
def offI (n off : Int) : Int := (n + off) % 18446744073709551616
def mArith (S : MS) (x : Ins) (v : Wh) : Int × Int :=
  if (mFst S x v).2 == 0 then (if (mSec S x v).2 == 0 then (aluV v.wide v.op x.off (mFst S x v).1 (mSec S x v).1, aluE v.wide v.op x.off) else (0, (mSec S x v).2)) else (0, (mFst S x v).2)
def mLoad (S : MS) (x : Ins) (v : Wh) : Int × Int :=
  if (rd S x.src).2 == 0 then
    (if (pLoad S.M (offI (rd S x.src).1 x.off) v.size).2 == 0 && v.signed then (signW (pLoad S.M (offI (rd S x.src).1 x.off) v.size).1 (8 * v.size), (pLoad S.M (offI (rd S x.src).1 x.off) v.size).2)
    else pLoad S.M (offI (rd S x.src).1 x.off) v.size)
  else (0, (rd S x.src).2)
def longI (a b : Int) : Int := a % 4294967296 + 4294967296 * (b % 4294967296)
def mSwap (S : MS) (x : Ins) (v : Wh) : Int × Int := if (rd S x.dst).2 == 0 then (swapV v.wide (8 * v.size) (rd S x.dst).1, swapE (8 * v.size)) else (0, (rd S x.dst).2)
def mTable (S : MS) (x : Ins) : Int × Int := if (S.D.length : Int) ≤ x.imm then (0, 113) else (wordI x.imm, 0)
def mValue (S : MS) (x : Ins) (v : Wh) : Int × Int :=
  if v.kind == 1 then mArith S x v else if v.kind == 2 then mSwap S x v else if v.kind == 3 then (longI x.imm (iAt S.l (S.at_ + 1)).imm, 0)
  else if v.kind == 4 then mTable S x else mLoad S x v
def mStore (S : MS) (x : Ins) (v : Wh) : PM × Int :=
  if (rd S x.dst).2 == 0 then
    (if (mSec S x v).2 == 0 then
      (if v.kind == 8 then
        (if (pLoad S.M (offI (rd S x.dst).1 x.off) v.size).2 == 0 then pStore S.M (offI (rd S x.dst).1 x.off) v.size (aluV true v.op 0 (pLoad S.M (offI (rd S x.dst).1 x.off) v.size).1 (mSec S x v).1)
        else (S.M, (pLoad S.M (offI (rd S x.dst).1 x.off) v.size).2))
      else pStore S.M (offI (rd S x.dst).1 x.off) v.size (mSec S x v).1)
    else (S.M, (mSec S x v).2))
  else (S.M, (rd S x.dst).2)
def mBranch (S : MS) (x : Ins) (v : Wh) : Int × Int :=
  if (rd S x.dst).2 == 0 then
    (if (mSec S x v).2 == 0 then (if condV v.op v.wide (rd S x.dst).1 (mSec S x v).1 then tgOf S.l S.at_ else nextOf S.l S.at_, condE v.op) else (0, (mSec S x v).2))
  else (0, (rd S x.dst).2)
def mTell (S : MS) (c : Cl) (kind n : Int) : Cl × Int :=
  if kind == 1 then (if (S.D.length : Int) ≤ (n - wordI 0) % 18446744073709551616 then (c, 113) else ({ c with map := (n - wordI 0) % 18446744073709551616 }, 0))
  else if kind == 2 then ({ c with k := (pRead S.M n (dAt S.D c.map.toNat).key).1 }, (pRead S.M n (dAt S.D c.map.toNat).key).2)
  else if kind == 3 then ({ c with v := (pRead S.M n (dAt S.D c.map.toNat).val).1 }, (pRead S.M n (dAt S.D c.map.toNat).val).2)
  else if kind == 4 then ({ c with n := c.n ++ [n] }, 0)
  else (c, 0)
def mTel1 (S : MS) (c : Cl) (kind i : Int) : Cl × Int := if (rd S i).2 == 0 then mTell S c kind (rd S i).1 else (c, (rd S i).2)
def mTolds (S : MS) : Nat → List Int → Cl → Cl × Int
  | _, [], c => (c, 0)
  | i, k :: ks, c => if (mTel1 S c k (i + 1)).2 == 0 then mTolds S (i + 1) ks (mTel1 S c k (i + 1)).1 else (Cl.zero, (mTel1 S c k (i + 1)).2)
structure TS where
  T : TT
  M : PM
  dr : List Int
  n : Int
  e : Int
def mTells (S : MS) (c : Cl) : TS :=
  if c.id == 1 then ⟨S.T, S.M, S.dr, (tLook S.T c.map c.k).1, (tLook S.T c.map c.k).2⟩
  else if c.id == 2 then ⟨(tPut S.T S.M c.map c.k c.v (bAt c.n 0)).T, (tPut S.T S.M c.map c.k c.v (bAt c.n 0)).M, S.dr, (tPut S.T S.M c.map c.k c.v (bAt c.n 0)).n, (tPut S.T S.M c.map c.k c.v (bAt c.n 0)).e⟩
  else if c.id == 3 then ⟨(tDrop S.T c.map c.k).1, S.M, S.dr, (tDrop S.T c.map c.k).2.1, (tDrop S.T c.map c.k).2.2⟩
  else if c.id == 6 then ⟨S.T, S.M, S.dr, 0, 0⟩
  else if (hDr c.id (S.dr.take 1)).2.2 == 0 then ⟨S.T, S.M, S.dr.drop 1, (hDr c.id (S.dr.take 1)).1, 0⟩
  else ⟨S.T, S.M, S.dr, 0, (hDr c.id (S.dr.take 1)).2.2⟩
def left5 (r : List (Int × Bool)) : List (Int × Bool) := ((((r.set 1 (0, false)).set 2 (0, false)).set 3 (0, false)).set 4 (0, false)).set 5 (0, false)
def mDone (S : MS) (c : Cl) (t : TS) : MS × Int :=
  if t.e == 0 then ({ S with T := t.T, M := t.M, dr := t.dr, calls := S.calls ++ [{ c with ret := t.n }], r := (left5 S.r).set 0 (t.n, true) }, 0)
  else ({ S with T := t.T, M := t.M, dr := t.dr }, t.e)
def mCall (S : MS) (id : Int) : MS × Int :=
  if hOk id then
    (if (mTolds S 0 (hS id).told Cl.zero).2 == 0 then mDone S { (mTolds S 0 (hS id).told Cl.zero).1 with id := id } (mTells S { (mTolds S 0 (hS id).told Cl.zero).1 with id := id })
    else (S, (mTolds S 0 (hS id).told Cl.zero).2))
  else (S, 112)
structure DS where
  S : MS
  next : Int
  e : Int
def pDo (S : MS) : DS :=
  let x := iAt S.l S.at_
  let v := wOf x
  if v.kind == 12 then (if (rd S 0).2 == 0 then ⟨{ S with over := true }, S.at_, 0⟩ else ⟨S, S.at_, (rd S 0).2⟩)
  else if v.kind == 9 then ⟨S, tgOf S.l S.at_, 0⟩
  else if v.kind == 10 then ⟨S, (mBranch S x v).1, (mBranch S x v).2⟩
  else if v.kind == 11 then ⟨(mCall S x.imm).1, nextOf S.l S.at_, (mCall S x.imm).2⟩
  else if v.kind == 6 || (v.kind == 7 || v.kind == 8) then ⟨{ S with M := (mStore S x v).1 }, nextOf S.l S.at_, (mStore S x v).2⟩
  else if (mValue S x v).2 == 0 then ⟨setR S x.dst (mValue S x v).1, nextOf S.l S.at_, 0⟩
  else ⟨S, 0, (mValue S x v).2⟩
def pStep (S : MS) : MS × Int :=
  if S.over then (S, 114)
  else if (pDo S).e == 0 then ({ (pDo S).S with at_ := (pDo S).next.toNat, steps := (pDo S).S.steps + 1 }, 0)
  else ({ (pDo S).S with over := true, why := (pDo S).e }, (pDo S).e)
end Go.Proofs.YtlbhffdpklbhfaaGreat
namespace Go.Proofs.YtlbhffdpklbhfaaGreat
open Go Go.RowKit
open Go.Maps (Keyed)
set_option linter.unusedVariables false
set_option linter.unusedSimpArgs false
def rawElem (v : Value) : Option (DataW Value × List MemPlace) := some (.held v, [])
open Classical in
noncomputable def putM (m : Lit → Option Value) (kl : Lit) (v : Option Value) : Lit → Option Value := fun x => if x = kl then v else m x
theorem putM_same (m : Lit → Option Value) (kl : Lit) (v : Option Value) : putM m kl v kl = v := by unfold putM; rw [if_pos rfl]
theorem putM_other {m : Lit → Option Value} {kl x : Lit} (h : x ≠ kl) (v : Option Value) : putM m kl v x = m x := by unfold putM; rw [if_neg h]
def MapIs (P : Program) (k : TypeId) (w : World) (b n : Nat) (m : Lit → Option Value) : Prop :=
  ∃ D, w.ownsMap P k rawElem b n D ∧ ∀ kl, WideAt.IsKeyLit kl → Maps.has D kl = (m kl).isSome ∧ ∀ z, D.atKey kl z = (m kl).elim z .held
theorem mapIs_made (w : World) (P : Program) (k : TypeId) : MapIs P k (w.alloc (.map #[] 0)) w.heap.size 0 (fun _ => none) :=
  ⟨_, World.ownsMap_made w P k rawElem, fun kl _ => ⟨rfl, fun z => rfl⟩⟩
section
variable {P : Program} {k : TypeId} {w w' : World} {b n : Nat} {m m' : Lit → Option Value}
theorem MapIs.lt (h : MapIs P k w b n m) : b < w.heap.size := by
  obtain ⟨D, h, _⟩ := h
  exact h.lt
theorem MapIs.same (h : MapIs P k w b n m) (hs : w'.heap[b]? = w.heap[b]?) : MapIs P k w' b n m := by
  obtain ⟨D, ⟨es, clock, hb, r⟩, hm⟩ := h
  exact ⟨D, ⟨es, clock, hs.trans hb, r⟩, hm⟩
theorem MapIs.mono (h : MapIs P k w b n m) {n' : Nat} (hn : n ≤ n') : MapIs P k w b n' m := by
  obtain ⟨D, h, hm⟩ := h
  exact ⟨D, h.mono hn, hm⟩
theorem MapIs.eq (h : MapIs P k w b n m) (e : ∀ kl, WideAt.IsKeyLit kl → m' kl = m kl) : MapIs P k w b n m' := by
  obtain ⟨D, h, hm⟩ := h
  exact ⟨D, h, fun kl hk => by rw [e kl hk]; exact hm kl hk⟩
theorem MapIs.look {t e : TypeId} (h : MapIs P k w b n m) (K : Keyed P k) (ht : P.underlying t = some (.map k e)) {z : Value} (hz : (zeroValue e).run P w = .ok z w) {key : Value} {kl : Lit} (hkey : keyOf P k key = some kl) :
    (Instr.lookup t (.map (some b)) key true).run P w = .ok (.tuple #[(m kl).getD z, .bool (m kl).isSome]) w := by
  obtain ⟨D, h, hm⟩ := h
  obtain ⟨v, ps, hr, hv⟩ := h.look_ok K ht hz (zd := .held z) (zp := []) rfl hkey
  obtain ⟨h1, h2⟩ := hm kl (K.key hkey)
  rw [hr, h1]
  simp only [rawElem, Option.some.injEq, Prod.mk.injEq] at hv
  have h3 := hv.1.trans (h2 _)
  cases hk : m kl with
  | none => rw [hk] at h3; simp only [Option.elim_none, DataW.held.injEq] at h3; rw [h3]; rfl
  | some u => rw [hk] at h3; simp only [Option.elim_some, DataW.held.injEq] at h3; rw [h3]; rfl
theorem MapIs.put {t e : TypeId} (h : MapIs P k w b n m) (K : Keyed P k) (ht : P.underlying t = some (.map k e)) (hn : n < maxLen) {key : Value} {kl : Lit} (hkey : keyOf P k key = some kl) (v : Value) :
    ∃ w', (Instr.mapUpdate t (.map (some b)) key v).run P w = .ok () w' ∧ MapIs P k w' b (n + 1) (putM m kl (some v)) ∧ w.grownBy w' (some b) := by
  obtain ⟨D, h, hm⟩ := h
  have hM := h.isMap
  obtain ⟨w', hr, h', hg⟩ := h.update K ht hn (val := v) (d := .held v) (ps := []) hkey rfl
  refine ⟨w', hr, ⟨_, h', fun x hx => ?_⟩, hg⟩
  by_cases e1 : x = kl
  · subst e1
    rw [putM_same]
    exact ⟨by rw [Maps.has_put_same hM hx]; rfl, fun z => by rw [Maps.atKey_put_same hM hx]; rfl⟩
  · rw [putM_other e1]
    obtain ⟨h1, h2⟩ := hm x hx
    exact ⟨by rw [Maps.has_put_other e1]; exact h1, fun z => by rw [Maps.atKey_put_other e1]; exact h2 z⟩
theorem MapIs.drop {t e : TypeId} (h : MapIs P k w b n m) (K : Keyed P k) (ht : P.underlying t = some (.map k e)) {key : Value} {kl : Lit} (hkey : keyOf P k key = some kl) (ty : TypeId) :
    ∃ w', (Builtin.delete_ #[t, k] ty #[.map (some b), key]).run P w = .ok (.tuple #[]) w' ∧ MapIs P k w' b n (putM m kl none) ∧ w.grownBy w' (some b) := by
  obtain ⟨D, h, hm⟩ := h
  obtain ⟨w', hr, h', hg⟩ := h.drop K ht hkey ty
  refine ⟨w', hr, ⟨_, h', fun x hx => ?_⟩, hg.grown⟩
  by_cases e1 : x = kl
  · subst e1
    rw [putM_same]
    exact ⟨by rw [Maps.has_del_same]; rfl, fun z => by rw [Maps.atKey_del_same]; rfl⟩
  · rw [putM_other e1]
    obtain ⟨h1, h2⟩ := hm x hx
    exact ⟨by rw [Maps.has_del_other e1]; exact h1, fun z => by rw [Maps.atKey_del_other e1]; exact h2 z⟩
end
def intM (f : Int → Option Value) : Lit → Option Value
  | .int .i64 i => f i
  | _ => none
theorem intM_at (f : Int → Option Value) (i : Int) : intM f (.int .i64 i) = f i := rfl
theorem intM_put (f : Int → Option Value) (i : Int) (v : Option Value) (kl : Lit) : putM (intM f) (.int .i64 i) v kl = intM (fun x => if x = i then v else f x) kl := by
  by_cases h : kl = .int .i64 i
  · subst h; rw [putM_same, intM_at, if_pos rfl]
  · rw [putM_other h]
    unfold intM
    split
    · rename_i x
      show f x = if x = i then v else f x
      rw [if_neg (fun e => h (by rw [e]))]
    · rfl
theorem keyI {P : Program} {k : TypeId} (hk : P.underlying k = some (.int .i64)) (i : Int) (h : -9223372036854775808 ≤ i ∧ i ≤ 9223372036854775807) : keyOf P k (.int .i64 i) = some (.int .i64 i) :=
  Maps.keyOf_int_mk hk (by simp [Lit.wf, show IntKind.i64.min = -9223372036854775808 from rfl, show IntKind.i64.max = 9223372036854775807 from rfl]; omega)
end Go.Proofs.YtlbhffdpklbhfaaGreat
