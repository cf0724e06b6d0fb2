/-
  Plain rows of instructions: the first place where something is wrong, place by place; the last one. No program is named here.
-/
import Derived.Test.YtplndcjmbgkcjaaCodeStarts
namespace Go.Proofs.Ytplndcjmbgkcjaa
open Go Go.RowKit
set_option linter.unusedVariables false
set_option linter.unusedSimpArgs false

/-- Of an instruction: it is a number or a table just if its Op is 24. -/
theorem wide_kind {x : Ins} (h : wOk x = true) : ((wOf x).kind == 3 || (wOf x).kind == 4) = (x.op == 24) := by
  unfold wOf
  rw [if_pos h]
  unfold wOk at h
  unfold waW
  split
  · rename_i hh
    rw [if_pos hh] at h
    exact absurd h Bool.false_ne_true
  · rename_i hh
    rw [if_neg hh] at h
    clear hh
    split
    · rename_i ho
      unfold otW
      by_cases h24 : x.op = 24
      · rw [h24]
        by_cases h0 : x.src = 0
        · simp [h0]
        · simp [h0]
      · have e : (x.op == 24) = false := beq_false_of_ne h24
        rw [e]
        simp only [h24, beq_iff_eq, if_false]
        repeat' split
        all_goals first | rfl | contradiction
    · rename_i ho
      rw [if_neg ho] at h
      have e : (x.op == 24) = false := by
        cases hh : (x.op == 24)
        · rfl
        · rw [beq_iff_eq] at hh
          exact absurd (by unfold others inB; rw [hh]; rfl) ho
      rw [e]
      split
      · rfl
      · rename_i h1
        rw [if_neg h1] at h
        split
        · rfl
        · rename_i h2
          rw [if_neg h2] at h
          unfold meOk at h
          unfold meW
          repeat' split
          all_goals first | rfl | (exact absurd h (by simp [*]))

theorem whole_eq (l : List Ins) (k : Nat) : (!bad1 l k) = (wOk (iAt l k) && (!((iAt l k).op == 24) || (decide (k + 1 < l.length) && zeroB (iAt l (k + 1)) ((wOf (iAt l k)).kind == 3)))) := by
  unfold bad1
  rw [halfB_eq]
  unfold hfB
  cases h : wOk (iAt l k)
  · rfl
  · rw [wide_kind h]
    cases (iAt l k).op == 24 <;> simp

/-! Place by place. -/
/-- The first place where one begins, from a place on, at which something is wrong. -/
def fs (l : List Ins) (P : Nat → Bool) (j : Nat) : Option Nat :=
  if h : j < l.length then (if stAt l j && P j then some j else fs l P (j + 1)) else none
  termination_by l.length - j
theorem fs_in {l : List Ins} {P : Nat → Bool} {j : Nat} (h : j < l.length) : fs l P j = if stAt l j && P j then some j else fs l P (j + 1) := by rw [fs, dif_pos h]
theorem fs_out {l : List Ins} {P : Nat → Bool} {j : Nat} (h : ¬ j < l.length) : fs l P j = none := by rw [fs, dif_neg h]
theorem stAt_of {l : List Ins} {k : Nat} {b : Bool} (h : (sts false l)[k]? = some b) : stAt l k = b := by
  unfold stAt
  rw [List.getD_eq_getElem?_getD, h]
  rfl
theorem stAt_get {l : List Ins} {k : Nat} (h : k < l.length) : (sts false l)[k]? = some (stAt l k) := by
  have hl : k < (sts false l).length := by rw [sts_len]; exact h
  unfold stAt
  rw [List.getD_eq_getElem?_getD, List.getElem?_eq_getElem hl]
  rfl
theorem stAt_out {l : List Ins} {k : Nat} (h : ¬ k < l.length) : stAt l k = false := by
  unfold stAt
  rw [List.getD_eq_getElem?_getD, List.getElem?_eq_none (by rw [sts_len]; omega)]
  rfl
theorem begins_at {l : List Ins} {k : Nat} (h : begins l k) (hk : k < l.length) : stAt l k = true := stAt_of (begins_step h hk).1
theorem begins_half {l : List Ins} {k : Nat} (h : begins l k) (hk : k < l.length) (h24 : (iAt l k).op = 24) : stAt l (k + 1) = false := by
  by_cases hl : k + 1 < l.length
  · have h3 := (begins_step h hk).2.2 h24
    rw [stAt_get hl] at h3
    cases hb : stAt l (k + 1)
    · rfl
    · rw [hb] at h3
      exact absurd rfl h3
  · exact stAt_out hl
theorem fs_eq_fb (l : List Ins) (P : Nat → Bool) : ∀ (n k : Nat), l.length - k ≤ n → begins l k → fs l P k = fb l P k := by
  intro n
  induction n with
  | zero =>
    intro k hn hb
    rw [fs_out (by omega), fb_out (by omega)]
  | succ n ih =>
    intro k hn hb
    by_cases hk : k < l.length
    · obtain ⟨_, h2, _⟩ := begins_step hb hk
      rw [fs_in hk, fb_in hk, begins_at hb hk, Bool.true_and]
      have hlt := nxt_lt l k
      have hr := ih (nxt l k) (by omega) h2
      by_cases hp : P k = true
      · rw [if_pos hp, if_pos hp]
      · rw [if_neg hp, if_neg hp, ← hr]
        unfold nxt
        by_cases h24 : (iAt l k).op = 24
        · rw [if_pos h24]
          by_cases hl : k + 1 < l.length
          · rw [fs_in hl, begins_half hb hk h24]
            rfl
          · rw [fs_out hl, fs_out (by omega)]
        · rw [if_neg h24]
    · rw [fs_out hk, fb_out hk]
theorem fs_zero (l : List Ins) (P : Nat → Bool) : fs l P 0 = fb l P 0 := fs_eq_fb l P _ 0 (Nat.le_refl _) (begins_zero l)

/-- The last one. -/
theorem lst_at (l : List Ins) : ∀ (n k d : Nat), l.length - k ≤ n → begins l k → k < l.length →
    lst l k d = (if stAt l (l.length - 1) then l.length - 1 else l.length - 2) ∧ stAt l (lst l k d) = true ∧ lst l k d < l.length ∧ l.length ≤ nxt l (lst l k d) := by
  intro n
  induction n with
  | zero => intro k d hn hb hk; omega
  | succ n ih =>
    intro k d hn hb hk
    obtain ⟨_, h2, _⟩ := begins_step hb hk
    have hlt := nxt_lt l k
    have hle := nxt_le l k
    rw [lst_in hk]
    by_cases hn2 : nxt l k < l.length
    · exact ih (nxt l k) k (by omega) h2 hn2
    · rw [lst_out hn2]
      refine ⟨?_, begins_at hb hk, hk, by omega⟩
      unfold nxt at hn2
      by_cases h24 : (iAt l k).op = 24
      · rw [if_pos h24] at hn2
        by_cases hl : k + 1 < l.length
        · have e : l.length - 1 = k + 1 := by omega
          rw [e, begins_half hb hk h24, if_neg Bool.false_ne_true]
          omega
        · have e : l.length - 1 = k := by omega
          rw [e, begins_at hb hk, if_pos rfl]
      · rw [if_neg h24] at hn2
        have e : l.length - 1 = k := by omega
        rw [e, begins_at hb hk, if_pos rfl]
theorem lst_zero {l : List Ins} (h : 0 < l.length) :
    lst l 0 0 = (if stAt l (l.length - 1) then l.length - 1 else l.length - 2) ∧ stAt l (lst l 0 0) = true ∧ lst l 0 0 < l.length ∧ l.length ≤ nxt l (lst l 0 0) := lst_at l _ 0 0 (Nat.le_refl _) (begins_zero l) h

end Go.Proofs.Ytplndcjmbgkcjaa
