/-
  Layer 9, plain: maps, whose values lie in memory; what is looked for, put, dropped, told. No program is named here.
  Conditions: none.
-/
import Derived.Test.YtempkpfcjonaaaaMemMath
import Derived.Test.YtempkpfcjonaaaaStrEq
import Derived.Test.YtempkpfcjonaaaaAreas
import Derived.Laws.BytesArg
import Derived.Lib.Strings
namespace Go.Proofs.Ytempkpfcjonaaaa
open Go Go.RowKit
set_option maxRecDepth 100000
set_option linter.unusedVariables false
set_option linter.unusedSimpArgs false

/-- What a map is. -/
structure Df where
  hash : Bool
  key : Int
  val : Int
  max : Int
def Df.zero : Df := ⟨false, 0, 0, 0⟩
def Df.good (d : Df) : Bool := (if d.hash then decide (1 ≤ d.key) && decide (d.key ≤ 16) else d.key == 4) && decide (8 ≤ d.val) && decide (d.val ≤ 64) && (d.val % 8 == 0) && decide (1 ≤ d.max) && decide (d.max ≤ 16)
def tRight (l : List Df) : Bool := l.all Df.good && decide (l.length ≤ 8)
/-- A key, and its slot. -/
structure TK where
  k : List Int
  s : Nat
def TK.zero : TK := ⟨[], 0⟩
/-- A map: its keys by rising ones, how many slots came to be. -/
structure TM where
  d : Df
  L : List TK
  made : Nat
def TM.zero : TM := ⟨Df.zero, [], 0⟩
abbrev TT := List TM
def mt (T : TT) (i : Nat) : TM := T.getD i TM.zero
def tArea (i s : Int) : Int := 4096 + 1024 * i + s
/-- Which of two keys stands ahead. -/
def kLt : List Int → List Int → Bool
  | _, [] => false
  | [], _ :: _ => true
  | a :: x, b :: y => decide (a < b) || (a == b && kLt x y)
def tFind (L : List TK) (key : List Int) : Option Nat := (L.find? fun x => x.k == key).map (·.s)
def tMay (T : TT) (i : Int) (key : List Int) : Bool := decide (0 ≤ i) && decide (i < T.length) && ((key.length : Int) == (mt T i.toNat).d.key)
def minusI (n : Int) : Int := 18446744073709551616 - n
def tLook (T : TT) (i : Int) (key : List Int) : Int × Int :=
  if tMay T i key then (match tFind (mt T i.toNat).L key with | none => (0, 0) | some s => (atI (tArea i s) 0, 0)) else (0, 1)
/-- A value is put in its place, byte by byte. -/
def tFill (M : PM) (i s : Int) (k : Nat) : List Int → PM
  | [] => M
  | x :: l => tFill (pStore M (atI (tArea i s) k) 1 x).1 i s (k + 1) l
/-- A key among the others. -/
def tIns (L : List TK) (x : TK) : List TK := L.takeWhile (fun y => kLt y.k x.k) ++ x :: L.dropWhile (fun y => kLt y.k x.k)
structure TP where
  T : TT
  M : PM
  n : Int
  e : Int
def tPut (T : TT) (M : PM) (i : Int) (key val : List Int) (flags : Int) : TP :=
  if tMay T i key && ((val.length : Int) == (mt T i.toNat).d.val) then
    let m := mt T i.toNat
    if 2 < flags then ⟨T, M, minusI 22, 0⟩
    else match tFind m.L key with
    | some s => if flags = 1 then ⟨T, M, minusI 17, 0⟩ else ⟨T, tFill M i s 0 val, 0, 0⟩
    | none =>
      if m.d.hash = false then ⟨T, M, minusI 7, 0⟩
      else if flags = 2 then ⟨T, M, minusI 2, 0⟩
      else if m.d.max ≤ m.L.length then ⟨T, M, minusI 7, 0⟩
      else if 1024 ≤ m.made then ⟨T, M, minusI 12, 0⟩
      else if (pMake M (tArea i m.made) val false false).2 = 0 then ⟨T.set i.toNat ⟨m.d, tIns m.L ⟨key, m.made⟩, m.made + 1⟩, (pMake M (tArea i m.made) val false false).1, 0, 0⟩
      else ⟨T, M, minusI 12, 0⟩
  else ⟨T, M, 0, 1⟩
def tDrop (T : TT) (i : Int) (key : List Int) : TT × Int × Int :=
  if tMay T i key then
    let m := mt T i.toNat
    if m.d.hash = false then (T, minusI 22, 0)
    else match tFind m.L key with
    | none => (T, minusI 2, 0)
    | some _ => (T.set i.toNat ⟨m.d, m.L.filter (fun x => !(x.k == key)), m.made⟩, 0, 0)
  else (T, 0, 1)
def tItems (T : TT) (M : PM) (i : Int) : List (List Int × List Int) :=
  if 0 ≤ i ∧ i < T.length then (mt T i.toNat).L.map (fun x => (x.k, (pArea M (tArea i x.s)).1)) else []
/-- The areas of a numbered map's values. -/
def tSlots (M : PM) (i v k : Nat) : Nat → PM × Bool
  | 0 => (M, true)
  | n + 1 => if (pMake M (tArea i k) (List.replicate v 0) false false).2 = 0 then tSlots (pMake M (tArea i k) (List.replicate v 0) false false).1 i v (k + 1) n else ((pMake M (tArea i k) (List.replicate v 0) false false).1, false)
def numL (n : Nat) : List TK := (List.range n).map fun (k : Nat) => TK.mk [((k : Nat) : Int), 0, 0, 0] k
def tNewG : Nat → List Df → PM → TT → PM × Option TT
  | _, [], M, T => (M, some T)
  | i, d :: l, M, T =>
    if d.hash then tNewG (i + 1) l M (T ++ [⟨d, [], 0⟩])
    else if (tSlots M i d.val.toNat 0 d.max.toNat).2 then tNewG (i + 1) l (tSlots M i d.val.toNat 0 d.max.toNat).1 (T ++ [⟨d, numL d.max.toNat, d.max.toNat⟩])
    else ((tSlots M i d.val.toNat 0 d.max.toNat).1, none)
def tNew (M : PM) (l : List Df) : PM × Option TT := if tRight l then tNewG 0 l M [] else (M, none)

/-- Maps as they may be. -/
structure TM.ok (m : TM) : Prop where
  good : m.d.good = true
  keys : ∀ x ∈ m.L, OkB x.k ∧ (x.k.length : Int) = m.d.key ∧ x.s < m.made
  rise : m.L.Pairwise fun x y => kLt x.k y.k = true
  few : (m.L.length : Int) ≤ m.d.max
  made : m.made ≤ 1024
def TOk (T : TT) : Prop := ∀ i, i < T.length → (mt T i).ok
theorem tok_nil : TOk [] := fun i h => absurd h (by simp)
theorem mt_get {T : TT} {i : Nat} (h : i < T.length) : T[i]? = some (mt T i) := by
  unfold mt
  rw [List.getD_eq_getElem?_getD, List.getElem?_eq_getElem h, Option.getD_some]
theorem mt_app {T : TT} {m : TM} {k : Nat} : mt (T ++ [m]) k = if k < T.length then mt T k else if k = T.length then m else TM.zero := by
  unfold mt
  rw [List.getD_eq_getElem?_getD, List.getD_eq_getElem?_getD, List.getElem?_append]
  split
  · rfl
  · rename_i h
    by_cases h2 : k = T.length
    · rw [if_pos h2, h2, Nat.sub_self]; rfl
    · rw [if_neg h2, List.getElem?_eq_none (by simp; omega)]; rfl
theorem mt_set {T : TT} {k : Nat} (hk : k < T.length) (m : TM) (j : Nat) : mt (T.set k m) j = if j = k then m else mt T j := by
  unfold mt
  rw [List.getD_eq_getElem?_getD, List.getD_eq_getElem?_getD, List.getElem?_set]
  by_cases h : k = j
  · subst h
    rw [if_pos rfl, if_pos hk, if_pos rfl]
    rfl
  · rw [if_neg h, if_neg (fun e => h e.symm)]
/-! Keys, one ahead of the other. -/
theorem kLt_irrefl (a : List Int) : kLt a a = false := by
  induction a with
  | nil => rfl
  | cons x a ih => simp [kLt, ih]
theorem kLt_trans {a b c : List Int} (h : kLt a b = true) (k : kLt b c = true) : kLt a c = true := by
  induction a generalizing b c with
  | nil =>
    cases c with
    | nil => cases b <;> simp [kLt] at k
    | cons z c => rfl
  | cons x a ih =>
    cases b with
    | nil => simp [kLt] at h
    | cons y b =>
      cases c with
      | nil => simp [kLt] at k
      | cons z c =>
        simp only [kLt, Bool.or_eq_true, decide_eq_true_eq, Bool.and_eq_true, beq_iff_eq] at *
        rcases h with h | ⟨h1, h2⟩
        · rcases k with k | ⟨k1, _⟩
          · exact .inl (by omega)
          · exact .inl (by omega)
        · rcases k with k | ⟨k1, k2⟩
          · exact .inl (by omega)
          · exact .inr ⟨by omega, ih h2 k2⟩
theorem kLt_total {a b : List Int} (h : kLt a b = false) (hne : a ≠ b) : kLt b a = true := by
  induction a generalizing b with
  | nil =>
    cases b with
    | nil => exact absurd rfl hne
    | cons y b => simp [kLt] at h
  | cons x a ih =>
    cases b with
    | nil => rfl
    | cons y b =>
      simp only [kLt, Bool.or_eq_false_iff, decide_eq_false_iff_not, Bool.and_eq_false_iff, Bool.or_eq_true, decide_eq_true_eq, Bool.and_eq_true, beq_iff_eq] at *
      by_cases hxy : x = y
      · subst hxy
        refine .inr ⟨rfl, ih ?_ (fun e => hne (by rw [e]))⟩
        rcases h.2 with c | c
        · simp at c
        · exact c
      · exact .inl (by omega)
theorem kLt_ne {a b : List Int} (h : kLt a b = true) : a ≠ b := fun e => by rw [e, kLt_irrefl] at h; cases h
/-! Keys as strings. -/
theorem less_kLt {a b : List Int} (ha : OkB a) (hb : OkB b) : Op.bytesLess (strOfNums a).toList (strOfNums b).toList = kLt a b := by
  rw [str_list, str_list]
  induction a generalizing b with
  | nil => cases b <;> rfl
  | cons x a ih =>
    cases b with
    | nil => rfl
    | cons y b =>
      obtain ⟨h1, h2⟩ := okB_cons ha
      obtain ⟨k1, k2⟩ := okB_cons hb
      simp only [List.map_cons, Op.bytesLess, kLt]
      rw [ih h2 k2]
      have e1 : (UInt8.ofNat x.toNat < UInt8.ofNat y.toNat) ↔ x < y := by
        rw [UInt8.lt_iff_toNat_lt, UInt8.toNat_ofNat', UInt8.toNat_ofNat']; omega
      have e2 : (UInt8.ofNat x.toNat == UInt8.ofNat y.toNat) = (x == y) := by
        rw [Bool.eq_iff_iff, beq_iff_eq, beq_iff_eq]
        constructor
        · intro h
          have := congrArg UInt8.toNat h
          rw [UInt8.toNat_ofNat', UInt8.toNat_ofNat'] at this
          omega
        · intro h; rw [h]
      rw [e2]
      congr 1
      rw [decide_eq_decide]
      exact e1

end Go.Proofs.Ytempkpfcjonaaaa
