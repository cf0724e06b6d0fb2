/-
  Plain rows of instructions: how many begin, one behind the other, and place by place. No program is named here.
-/
import Derived.Test.YtplndcjmbgkcjaaCodeMath
namespace Go.Proofs.Ytplndcjmbgkcjaa
open Go Go.RowKit
set_option linter.unusedVariables false

def cn (l : List Ins) (k : Nat) : Nat :=
  if h : k < l.length then cn l (nxt l k) + 1 else 0
  termination_by l.length - k
  decreasing_by have := nxt_lt l k; omega
theorem cn_in {l : List Ins} {k : Nat} (h : k < l.length) : cn l k = cn l (nxt l k) + 1 := by rw [cn, dif_pos h]
theorem cn_out {l : List Ins} {k : Nat} (h : ¬ k < l.length) : cn l k = 0 := by rw [cn, dif_neg h]
def ct (l : List Ins) (k : Nat) : Nat :=
  if h : k < l.length then ct l (k + 1) + (if stAt l k then 1 else 0) else 0
  termination_by l.length - k
theorem ct_in {l : List Ins} {k : Nat} (h : k < l.length) : ct l k = ct l (k + 1) + (if stAt l k then 1 else 0) := by rw [ct, dif_pos h]
theorem ct_out {l : List Ins} {k : Nat} (h : ¬ k < l.length) : ct l k = 0 := by rw [ct, dif_neg h]
theorem ct_cn (l : List Ins) : ∀ (n k : Nat), l.length - k ≤ n → begins l k → ct l k = cn l k := by
  intro n
  induction n with
  | zero =>
    intro k hn hb
    rw [ct_out (by omega), cn_out (by omega)]
  | succ n ih =>
    intro k hn hb
    by_cases hk : k < l.length
    · obtain ⟨_, h2, _⟩ := begins_step hb hk
      have hlt := nxt_lt l k
      have hr := ih (nxt l k) (by omega) h2
      rw [ct_in hk, cn_in hk, begins_at hb hk, if_pos rfl, ← hr]
      unfold nxt
      by_cases h24 : (iAt l k).op = 24
      · rw [if_pos h24]
        by_cases hl : k + 1 < l.length
        · rw [ct_in hl, begins_half hb hk h24]
          simp
        · rw [ct_out hl, ct_out (by omega)]
      · rw [if_neg h24]
    · rw [ct_out hk, cn_out hk]
theorem ct_zero (l : List Ins) : ct l 0 = cn l 0 := ct_cn l _ 0 (Nat.le_refl _) (begins_zero l)
theorem cn_le (l : List Ins) : ∀ (n k : Nat), l.length - k ≤ n → k + cn l k ≤ max k l.length := by
  intro n
  induction n with
  | zero => intro k hn; rw [cn_out (by omega)]; omega
  | succ n ih =>
    intro k hn
    by_cases hk : k < l.length
    · have hlt := nxt_lt l k
      have := ih (nxt l k) (by omega)
      rw [cn_in hk]
      have h2 := nxt_le l k
      by_cases hn2 : nxt l k < l.length
      · omega
      · rw [cn_out hn2] at this ⊢
        omega
    · rw [cn_out hk]; omega
theorem cn_zero_le (l : List Ins) : cn l 0 ≤ l.length := by
  have := cn_le l _ 0 (Nat.le_refl _)
  omega
theorem cn_pos {l : List Ins} (h : 0 < l.length) : 1 ≤ cn l 0 := by rw [cn_in h]; omega

end Go.Proofs.Ytplndcjmbgkcjaa
