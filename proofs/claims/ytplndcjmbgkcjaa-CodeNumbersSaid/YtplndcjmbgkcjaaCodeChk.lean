/-
  Plain rows of instructions: where, and why, one is no program, by cases. No program is named here.
-/
import Derived.Test.YtplndcjmbgkcjaaCodeRows
namespace Go.Proofs.Ytplndcjmbgkcjaa
open Go Go.RowKit
set_option linter.unusedVariables false

def fitsB (n : Int) : Bool := decide (0 < n) && decide (n ≤ 512)
theorem chk_size {l : List Ins} (h : fitsB l.length = false) : chk l = (0, 70) := by
  unfold chk
  rw [if_pos]
  unfold fitsB at h
  by_cases h0 : (0 : Int) < l.length
  · rw [decide_eq_true h0, Bool.true_and] at h
    have := of_decide_eq_false h
    omega
  · omega
theorem fits_len {l : List Ins} (h : fitsB l.length = true) : 0 < l.length ∧ l.length ≤ 512 := by
  unfold fitsB at h
  simp only [Bool.and_eq_true, decide_eq_true_eq] at h
  omega
theorem chk_insn {l : List Ins} {k : Nat} (h : fitsB l.length = true) (h1 : fs l (bad1 l) 0 = some k) : chk l = ((k : Int), 71) := by
  have := fits_len h
  unfold chk
  rw [if_neg (by omega), ← fs_zero, h1]
theorem chk_jump {l : List Ins} {k : Nat} (h : fitsB l.length = true) (h1 : fs l (bad1 l) 0 = none) (h2 : fs l (bad2 l) 0 = some k) : chk l = ((k : Int), 72) := by
  have := fits_len h
  unfold chk
  rw [if_neg (by omega), ← fs_zero, h1]
  simp only
  rw [← fs_zero, h2]
theorem chk_end {l : List Ins} (h : fitsB l.length = true) (h1 : fs l (bad1 l) 0 = none) (h2 : fs l (bad2 l) 0 = none) :
    chk l = if ends (iAt l (lst l 0 0)) then (0, 0) else (((lst l 0 0 : Nat) : Int), 73) := by
  have := fits_len h
  unfold chk
  rw [if_neg (by omega), ← fs_zero, h1]
  simp only
  rw [← fs_zero, h2]
theorem fs_skip {l : List Ins} {P : Nat → Bool} {j : Nat} (hj : j < l.length) (h : (stAt l j && P j) = false) : fs l P (j + 1) = fs l P j := by
  rw [fs_in hj, h, if_neg Bool.false_ne_true]
theorem fs_found {l : List Ins} {P : Nat → Bool} {j : Nat} (hj : j < l.length) (h1 : stAt l j = true) (h2 : P j = true) : fs l P j = some j := by
  rw [fs_in hj, h1, h2]
  rfl
theorem chk_rng (l : List Ins) (hl : l.length ≤ 100000) : 0 ≤ (chk l).1 ∧ (chk l).1 ≤ 512 ∧ ((chk l).2 = 0 ∨ (chk l).2 = 70 ∨ (chk l).2 = 71 ∨ (chk l).2 = 72 ∨ (chk l).2 = 73) := by
  cases hf : fitsB l.length
  · rw [chk_size hf]; simp
  have hn := fits_len hf
  have fl : ∀ (P : Nat → Bool) (n j k : Nat), l.length - j ≤ n → fs l P j = some k → k < l.length := by
    intro P n
    induction n with
    | zero => intro j k hj h; rw [fs_out (by omega)] at h; cases h
    | succ n ih =>
      intro j k hj h
      by_cases hjl : j < l.length
      · rw [fs_in hjl] at h
        split at h
        · cases h; exact hjl
        · exact ih (j + 1) k (by omega) h
      · rw [fs_out hjl] at h; cases h
  cases h1 : fs l (bad1 l) 0 with
  | some k => rw [chk_insn hf h1]; have := fl _ _ 0 k (Nat.le_refl _) h1; simp; omega
  | none =>
    cases h2 : fs l (bad2 l) 0 with
    | some k => rw [chk_jump hf h1 h2]; have := fl _ _ 0 k (Nat.le_refl _) h2; simp; omega
    | none =>
      rw [chk_end hf h1 h2]
      have := (lst_zero hn.1).2.2.1
      split <;> simp <;> omega

end Go.Proofs.Ytplndcjmbgkcjaa
