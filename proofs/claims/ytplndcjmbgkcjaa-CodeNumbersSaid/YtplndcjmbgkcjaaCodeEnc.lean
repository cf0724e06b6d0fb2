/-
  Plain rows of instructions: of a program each one's registers are such. No program is named here.
-/
import Derived.Test.YtplndcjmbgkcjaaCodeDec
namespace Go.Proofs.Ytplndcjmbgkcjaa
open Go Go.RowKit
set_option linter.unusedVariables false
set_option linter.unusedSimpArgs false

theorem sts_prev : ∀ (l : List Ins) (b : Bool) (k : Nat), k < l.length → (sts b l)[k]? = some false → (k = 0 ∧ b = true) ∨ (0 < k ∧ (sts b l)[k - 1]? = some true ∧ (iAt l (k - 1)).op = 24) := by
  intro l
  induction l with
  | nil => intro b k h; simp at h
  | cons x t ih =>
    intro b k h hs
    cases b with
    | true =>
      cases k with
      | zero => exact Or.inl ⟨rfl, rfl⟩
      | succ k =>
        have hs' : (sts false t)[k]? = some false := by simpa [sts] using hs
        rcases ih false k (by simpa using h) hs' with ⟨_, h2⟩ | ⟨h1, h2, h3⟩
        · cases h2
        · refine Or.inr ⟨by omega, ?_, ?_⟩
          · rw [show k + 1 - 1 = (k - 1) + 1 by omega]
            simpa [sts] using h2
          · rw [show k + 1 - 1 = (k - 1) + 1 by omega]
            simpa [iAt] using h3
    | false =>
      cases k with
      | zero => simp [sts] at hs
      | succ k =>
        have hs' : (sts (x.op == 24) t)[k]? = some false := by simpa [sts] using hs
        rcases ih _ k (by simpa using h) hs' with ⟨h1, h2⟩ | ⟨h1, h2, h3⟩
        · subst h1
          exact Or.inr ⟨by omega, by simp [sts], by simpa [iAt] using h2⟩
        · refine Or.inr ⟨by omega, ?_, ?_⟩
          · rw [show k + 1 - 1 = (k - 1) + 1 by omega]
            simpa [sts] using h2
          · rw [show k + 1 - 1 = (k - 1) + 1 by omega]
            simpa [iAt] using h3
theorem st_prev {l : List Ins} {k : Nat} (hk : k < l.length) (h : stAt l k = false) : 0 < k ∧ stAt l (k - 1) = true ∧ (iAt l (k - 1)).op = 24 := by
  have hs := stAt_get hk
  rw [h] at hs
  rcases sts_prev l false k hk hs with ⟨_, h2⟩ | ⟨h1, h2, h3⟩
  · cases h2
  · exact ⟨h1, stAt_of h2, h3⟩
theorem fs_none {l : List Ins} {P : Nat → Bool} : ∀ (n j : Nat), l.length - j ≤ n → fs l P j = none → ∀ k, j ≤ k → k < l.length → stAt l k = true → P k = false := by
  intro n
  induction n with
  | zero => intro j hj h k h1 h2; omega
  | succ n ih =>
    intro j hj h k h1 h2 hs
    rw [fs_in (by omega)] at h
    by_cases hp : (stAt l j && P j) = true
    · rw [if_pos hp] at h
      cases h
    · rw [if_neg hp] at h
      by_cases hjk : j = k
      · subst hjk
        cases hpj : P j
        · rfl
        · exact absurd (by rw [hs, hpj]; rfl) hp
      · exact ih (j + 1) (by omega) h k (by omega) h2 hs
/-- A program: each one is such, each jump goes to one, and it ends. -/
theorem chk_ok {l : List Ins} (h : (chk l).2 = 0) : fitsB l.length = true ∧ (∀ k, k < l.length → stAt l k = true → bad1 l k = false) ∧ (∀ k, k < l.length → stAt l k = true → bad2 l k = false) ∧ ends (iAt l (lst l 0 0)) = true ∧ (chk l).1 = 0 := by
  cases hf : fitsB l.length
  · rw [chk_size hf] at h; cases h
  cases h1 : fs l (bad1 l) 0 with
  | some k => rw [chk_insn hf h1] at h; cases h
  | none =>
    cases h2 : fs l (bad2 l) 0 with
    | some k => rw [chk_jump hf h1 h2] at h; cases h
    | none =>
      have h3 := chk_end hf h1 h2
      refine ⟨rfl, fun k hk hs => fs_none _ 0 (Nat.le_refl _) h1 k (Nat.zero_le _) hk hs, fun k hk hs => fs_none _ 0 (Nat.le_refl _) h2 k (Nat.zero_le _) hk hs, ?_, ?_⟩
      · cases he : ends (iAt l (lst l 0 0))
        · rw [h3, he] at h; cases h
        · rfl
      · cases he : ends (iAt l (lst l 0 0))
        · rw [h3, he] at h; cases h
        · rw [h3, he]; rfl
theorem wOk_regs {x : Ins} (h : wOk x = true) : x.dst ≤ 10 ∧ x.src ≤ 10 := by
  unfold wOk at h
  by_cases h1 : 10 < x.dst
  · rw [decide_eq_true h1, Bool.true_or, if_pos rfl] at h; cases h
  · by_cases h2 : 10 < x.src
    · rw [decide_eq_true h2, Bool.or_true, if_pos rfl] at h; cases h
    · omega
theorem zeroB_regs {x : Ins} {b : Bool} (h : zeroB x b = true) : x.op = 0 ∧ x.dst = 0 ∧ x.src = 0 ∧ x.off = 0 := by
  unfold zeroB at h
  simp only [Bool.and_eq_true, beq_iff_eq] at h
  exact ⟨h.1, h.2.1, h.2.2.1, h.2.2.2.1⟩
theorem half_of {l : List Ins} {k : Nat} (hb : bad1 l k = false) (h24 : (iAt l k).op = 24) : k + 1 < l.length ∧ zeroB (iAt l (k + 1)) ((wOf (iAt l k)).kind == 3) = true := by
  have h := whole_eq l k
  rw [hb, beq_iff_eq.mpr h24] at h
  simp only [Bool.not_false, Bool.not_true, Bool.false_or] at h
  have h' := h.symm
  simp only [Bool.and_eq_true, decide_eq_true_eq] at h'
  exact h'.2
theorem whole_ok {l : List Ins} {k : Nat} (hb : bad1 l k = false) : wOk (iAt l k) = true := by
  have h := whole_eq l k
  rw [hb] at h
  have h' := h.symm
  simp only [Bool.not_false, Bool.and_eq_true] at h'
  exact h'.1
theorem chk_regs {l : List Ins} (h : (chk l).2 = 0) : ∀ k, k < l.length → (iAt l k).dst ≤ 15 ∧ (iAt l k).src ≤ 15 := by
  obtain ⟨_, h1, _⟩ := chk_ok h
  intro k hk
  cases hs : stAt l k
  · obtain ⟨h0, hs', h24⟩ := st_prev hk hs
    obtain ⟨_, hz⟩ := half_of (h1 (k - 1) (by omega) hs') h24
    rw [show k - 1 + 1 = k by omega] at hz
    obtain ⟨_, hd, hsr, _⟩ := zeroB_regs hz
    omega
  · have := wOk_regs (whole_ok (h1 k hk hs))
    omega
theorem encL_take (l : List Ins) {j : Nat} (h : j < l.length) : encL (l.take (j + 1)) = encL (l.take j) ++ encI (iAt l j) := by
  unfold encL iAt
  rw [List.take_add_one, List.getElem?_eq_getElem h, List.flatMap_append, List.getD_eq_getElem?_getD, List.getElem?_eq_getElem h]
  simp

end Go.Proofs.Ytplndcjmbgkcjaa
