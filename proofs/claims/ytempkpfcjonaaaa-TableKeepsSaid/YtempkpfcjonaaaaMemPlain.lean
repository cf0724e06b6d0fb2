/-
  Layer 8, plain: memory as a row of areas; what is made, stored, loaded and read. No program is named here.
-/
import Derived.Test.YtempkpfcjonaaaaByt
namespace Go.Proofs.Ytempkpfcjonaaaa
open Go Go.RowKit
set_option linter.unusedVariables false
set_option linter.unusedSimpArgs false

/-- An area: its number, its bytes, which of them are blank, whether it is fixed. -/
structure PA where
  id : Int
  b : List Int
  bl : List Bool
  fx : Bool
def PA.zero : PA := ⟨0, [], [], false⟩
abbrev PM := List PA
def pAt (M : PM) (k : Nat) : PA := M.getD k PA.zero
theorem pAt_get {M : PM} {k : Nat} (h : k < M.length) : M[k]? = some (pAt M k) := by
  unfold pAt
  rw [List.getD_eq_getElem?_getD, List.getElem?_eq_getElem h, Option.getD_some]
/-- Where the area of a number is. -/
def pIx : PM → Int → Option Nat
  | [], _ => none
  | a :: M, i => if a.id = i then some 0 else (pIx M i).map (· + 1)
theorem pIx_some {M : PM} {i : Int} {k : Nat} (h : pIx M i = some k) : k < M.length ∧ (pAt M k).id = i ∧ ∀ j, j < k → (pAt M j).id ≠ i := by
  induction M generalizing k with
  | nil => cases h
  | cons a M ih =>
    unfold pIx at h
    by_cases ha : a.id = i
    · rw [if_pos ha] at h
      cases h
      exact ⟨by simp, ha, fun j hj => by omega⟩
    · rw [if_neg ha] at h
      cases hm : pIx M i with
      | none => rw [hm] at h; cases h
      | some k' =>
        rw [hm] at h
        simp only [Option.map_some, Option.some.injEq] at h
        subst h
        obtain ⟨h1, h2, h3⟩ := ih hm
        refine ⟨by simp; omega, by simpa [pAt] using h2, fun j hj => ?_⟩
        cases j with
        | zero => simpa [pAt] using ha
        | succ j => simpa [pAt] using h3 j (by omega)
theorem pIx_none {M : PM} {i : Int} : pIx M i = none ↔ ∀ j, j < M.length → (pAt M j).id ≠ i := by
  induction M with
  | nil => simp [pIx]
  | cons a M ih =>
    unfold pIx
    by_cases ha : a.id = i
    · rw [if_pos ha]
      simp only [reduceCtorEq, false_iff]
      exact fun h => h 0 (by simp) (by simpa [pAt] using ha)
    · rw [if_neg ha, Option.map_eq_none_iff, ih]
      constructor
      · intro h j hj
        cases j with
        | zero => simpa [pAt] using ha
        | succ j => simpa [pAt] using h j (by simpa using hj)
      · intro h j hj
        simpa [pAt] using h (j + 1) (by simpa using hj)
theorem pIx_of {M : PM} {i : Int} {k : Nat} (hk : k < M.length) (h1 : (pAt M k).id = i) (h2 : ∀ j, j < k → (pAt M j).id ≠ i) : pIx M i = some k := by
  cases h : pIx M i with
  | none => exact absurd h1 (pIx_none.mp h k hk)
  | some k' =>
    obtain ⟨a1, a2, a3⟩ := pIx_some h
    rcases Nat.lt_trichotomy k k' with c | c | c
    · exact absurd h1 (a3 k c)
    · rw [c]
    · exact absurd a2 (h2 k' c)
/-- A place as a number; -1: there is none. -/
def ixI (o : Option Nat) : Int := match o with | some k => k | none => -1
/-- The number whose bytes these are, the lowest first; and the other way about. -/
def leN : List Int → Int
  | [] => 0
  | x :: l => x + 256 * leN l
def leB (n : Int) : Nat → List Int
  | 0 => []
  | k + 1 => n % 256 :: leB (n / 256) k
theorem leB_len (n : Int) (k : Nat) : (leB n k).length = k := by
  induction k generalizing n with
  | zero => rfl
  | succ k ih => simp [leB, ih]
theorem leB_ok (n : Int) (k : Nat) : OkB (leB n k) := by
  induction k generalizing n with
  | zero => intro j hj; simp [leB] at hj
  | succ k ih =>
    intro j hj
    cases j with
    | zero => simp [leB, bAt]; omega
    | succ j =>
      have := ih (n / 256) j (by simpa [leB] using hj)
      simpa [leB, bAt] using this
theorem leN_leB (n : Int) (k : Nat) : leN (leB n k) = n % 256 ^ k := by
  induction k generalizing n with
  | zero => simp [leB, leN, Int.emod_one]
  | succ k ih =>
    show n % 256 + 256 * leN (leB (n / 256) k) = _
    rw [ih, Int.pow_succ, Int.mul_comm (256 ^ k) 256]
    have hp : (0 : Int) < 256 ^ k := Int.pow_pos (by omega)
    have h1 := Int.emod_add_mul_ediv n 256
    have h2 := Int.emod_add_mul_ediv (n / 256) (256 ^ k)
    have h3 := Int.emod_nonneg (n / 256) (b := 256 ^ k) (by omega)
    have h4 := Int.emod_lt_of_pos (n / 256) hp
    have h5 : n = (n % 256 + 256 * (n / 256 % 256 ^ k)) + (256 * 256 ^ k) * (n / 256 / 256 ^ k) := by
      rw [Int.mul_assoc]
      have e : 256 * (n / 256) = 256 * (n / 256 % 256 ^ k) + 256 * (256 ^ k * (n / 256 / 256 ^ k)) := by rw [← Int.mul_add, h2]
      omega
    have h6 : 0 ≤ n % 256 + 256 * (n / 256 % 256 ^ k) := by omega
    have h7 : n % 256 + 256 * (n / 256 % 256 ^ k) < 256 * 256 ^ k := by
      have : n / 256 % 256 ^ k + 1 ≤ 256 ^ k := h4
      have h8 : 256 * (n / 256 % 256 ^ k + 1) ≤ 256 * 256 ^ k := Int.mul_le_mul_of_nonneg_left this (by omega)
      rw [Int.mul_add] at h8
      omega
    generalize n % 256 + 256 * (n / 256 % 256 ^ k) = r at *
    generalize n / 256 / 256 ^ k = q at *
    generalize (256 : Int) * 256 ^ k = m at *
    rw [h5, Int.add_mul_emod_self_left, Int.emod_eq_of_lt h6 h7]
/-- Things put from a place on. -/
def putN {α : Type} (b : List α) (o : Nat) : List α → List α
  | [] => b
  | x :: l => putN (b.set o x) (o + 1) l
theorem putN_len {α : Type} (l : List α) : ∀ (b : List α) (o : Nat), (putN b o l).length = b.length := by
  induction l with
  | nil => intro b o; rfl
  | cons x l ih => intro b o; simp [putN, ih]
theorem putN_get {α : Type} (l : List α) : ∀ (b : List α) (o k : Nat), o + l.length ≤ b.length → (putN b o l)[k]? = if k < o then b[k]? else if k < o + l.length then l[k - o]? else b[k]? := by
  induction l with
  | nil =>
    intro b o k h
    simp only [putN, List.length_nil, Nat.add_zero]
    split <;> rfl
  | cons x l ih =>
    intro b o k h
    simp only [List.length_cons] at h
    simp only [putN]
    rw [ih (b.set o x) (o + 1) k (by rw [List.length_set]; omega)]
    simp only [List.length_cons]
    by_cases h1 : k < o
    · rw [if_pos (by omega), if_pos h1, List.getElem?_set, if_neg (by omega)]
    · rw [if_neg h1]
      by_cases h2 : k = o
      · subst h2
        rw [if_pos (by omega), if_pos (by omega), List.getElem?_set, if_pos rfl, if_pos (by omega), Nat.sub_self]
        rfl
      · rw [if_neg (by omega)]
        by_cases h3 : k < o + 1 + l.length
        · rw [if_pos h3, if_pos (by omega), show k - o = (k - (o + 1)) + 1 by omega]
          rfl
        · rw [if_neg h3, if_neg (by omega), List.getElem?_set, if_neg (by omega)]
theorem putN_ok {l b : List Int} {o : Nat} (hl : OkB l) (hb : OkB b) : OkB (putN b o l) := by
  induction l generalizing b o with
  | nil => exact hb
  | cons x l ih =>
    have hx : 0 ≤ x ∧ x ≤ 255 := by have := hl 0 (by simp); simpa [bAt] using this
    have hl' : OkB l := fun j hj => by have := hl (j + 1) (by simpa using hj); simpa [bAt] using this
    show OkB (putN (b.set o x) (o + 1) l)
    refine ih hl' ?_
    by_cases ho : o < b.length
    · exact okB_set hb ho hx
    · rw [List.set_eq_of_length_le (by omega)]
      exact hb

def fitsZ (s : Int) : Bool := s == 1 || s == 2 || s == 4 || s == 8
/-- The area, and the place of the byte in it, from which on so many are in one area. -/
def pWh (M : PM) (at_ s : Int) : Option (Nat × Nat) :=
  match pIx M (at_ / 4294967296) with
  | none => none
  | some k => if at_ % 4294967296 ≤ ((pAt M k).b.length : Int) ∧ s ≤ ((pAt M k).b.length : Int) - at_ % 4294967296 then some (k, (at_ % 4294967296).toNat) else none
theorem pWh_some {M : PM} {at_ s : Int} {k o : Nat} (h : pWh M at_ s = some (k, o)) : pIx M (at_ / 4294967296) = some k ∧ k < M.length ∧ at_ % 4294967296 = o ∧ (0 ≤ s → o + s.toNat ≤ (pAt M k).b.length) ∧ o ≤ (pAt M k).b.length := by
  unfold pWh at h
  cases hx : pIx M (at_ / 4294967296) with
  | none => rw [hx] at h; cases h
  | some k' =>
    rw [hx] at h
    simp only at h
    split at h
    · rename_i hc
      cases h
      have := (pIx_some hx).1
      exact ⟨rfl, this, by omega, fun _ => by omega, by omega⟩
    · cases h
/-- Is one of some bytes blank? -/
def blankB (a : PA) (o s : Nat) : Bool := ((a.bl.drop o).take s).any id
def pRead (M : PM) (at_ s : Int) : List Int × Int :=
  if s < 0 ∨ 1024 < s then ([], 1)
  else match pWh M at_ s with
  | none => ([], 80)
  | some (k, o) => if blankB (pAt M k) o s.toNat then ([], 81) else (((pAt M k).b.drop o).take s.toNat, 0)
def pLoad (M : PM) (at_ s : Int) : Int × Int :=
  if fitsZ s then (if (pRead M at_ s).2 = 0 then (leN (pRead M at_ s).1, 0) else (0, (pRead M at_ s).2)) else (0, 1)
/-- An area with a number stored. -/
def paSet (a : PA) (o s : Nat) (n : Int) : PA := ⟨a.id, putN a.b o (leB n s), putN a.bl o (List.replicate s false), a.fx⟩
def pStore (M : PM) (at_ s n : Int) : PM × Int :=
  if fitsZ s then
    match pWh M at_ s with
    | none => (M, 80)
    | some (k, o) => if (pAt M k).fx then (M, 82) else (M.set k (paSet (pAt M k) o s.toNat n), 0)
  else (M, 1)
def pMake (M : PM) (id : Int) (b : List Int) (blank fx : Bool) : PM × Int :=
  if id < 1 ∨ 2147483648 ≤ id ∨ (pIx M id).isSome = true then (M, 1)
  else if 1024 < b.length then (M, 3)
  else (M ++ [⟨id, b, List.replicate b.length blank, fx⟩], 0)
def pArea (M : PM) (id : Int) : List Int × Bool :=
  match pIx M id with
  | none => ([], false)
  | some k => ((pAt M k).b, true)
def atI (area off : Int) : Int := (area * 4294967296 + off) % 18446744073709551616
/-- An area as it may be. -/
def PA.ok (a : PA) : Prop := OkB a.b ∧ a.bl.length = a.b.length ∧ a.b.length ≤ 1024 ∧ 1 ≤ a.id ∧ a.id < 2147483648
def PMok (M : PM) : Prop := ∀ k, k < M.length → (pAt M k).ok
theorem pmok_nil : PMok [] := fun k hk => by simp at hk
theorem pAt_app {M : PM} {a : PA} {k : Nat} : pAt (M ++ [a]) k = if k < M.length then pAt M k else if k = M.length then a else PA.zero := by
  unfold pAt
  rw [List.getD_eq_getElem?_getD, List.getD_eq_getElem?_getD, List.getElem?_append]
  split
  · rfl
  · rename_i h
    by_cases h2 : k = M.length
    · rw [if_pos h2, h2, Nat.sub_self]; rfl
    · rw [if_neg h2, List.getElem?_eq_none (by simp; omega)]; rfl
theorem pAt_set {M : PM} {k : Nat} (hk : k < M.length) (a : PA) (j : Nat) : pAt (M.set k a) j = if j = k then a else pAt M j := by
  unfold pAt
  rw [List.getD_eq_getElem?_getD, List.getD_eq_getElem?_getD, List.getElem?_set]
  by_cases h : k = j
  · subst h
    rw [if_pos rfl, if_pos hk, if_pos rfl]
    rfl
  · rw [if_neg h, if_neg (fun e => h e.symm)]
theorem pmok_make {M : PM} (h : PMok M) {id : Int} {b : List Int} (hb : OkB b) (blank fx : Bool) : PMok (pMake M id b blank fx).1 := by
  unfold pMake
  split
  · exact h
  · split
    · exact h
    · intro k hk
      simp only [List.length_append, List.length_singleton] at hk
      rw [pAt_app]
      split
      · exact h k (by assumption)
      · rw [if_pos (by omega)]
        exact ⟨hb, by simp, by simp only; omega, by simp only; omega, by simp only; omega⟩
theorem paSet_ok {a : PA} (h : a.ok) (o s : Nat) (n : Int) : (paSet a o s n).ok := by
  obtain ⟨h1, h2, h3, h4⟩ := h
  exact ⟨putN_ok (leB_ok n s) h1, by simp [paSet, putN_len, h2], by simpa [paSet, putN_len] using h3, h4⟩
theorem pmok_store {M : PM} (h : PMok M) (at_ s n : Int) : PMok (pStore M at_ s n).1 := by
  unfold pStore
  split
  · split
    · exact h
    · split
      · exact h
      · rename_i k o hw _
        have hk := (pWh_some hw).2.1
        intro j hj
        simp only [List.length_set] at hj
        rw [pAt_set hk]
        split
        · exact paSet_ok (h k hk) _ _ _
        · exact h j hj
  · exact h

end Go.Proofs.Ytempkpfcjonaaaa
