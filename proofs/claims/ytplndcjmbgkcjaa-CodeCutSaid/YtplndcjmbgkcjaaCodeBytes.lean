/-
  Rows of bytes: the first ones.
  Conditions: none.
-/
import Derived.Test.YtplndcjmbgkcjaaBytRow
import Derived.Test.YtplndcjmbgkcjaaCodeEnc
namespace Go.Proofs.Ytplndcjmbgkcjaa
open Go.RowKit
set_option linter.unusedVariables false

theorem few_bytes {w : World} {A : Option Addr} {b : List Int} {c : Nat} (h : BytS w A b) (hb : OkB b) (hc : b.length ≤ c) :
    ∃ q : List Int, q.length = min 4200 b.length ∧ BytS w A q ∧ OkB q ∧ q.length ≤ 4200 ∧ q.length ≤ c := by
  have hl : (b.take 4200).length = min 4200 b.length := by rw [List.length_take]
  have ha : ∀ k, k < (b.take 4200).length → bAt (b.take 4200) k = bAt b k := fun k hk => by
    rw [hl] at hk
    unfold bAt
    rw [List.getD_eq_getElem?_getD, List.getElem?_take, if_pos (by omega), ← List.getD_eq_getElem?_getD]
  refine ⟨b.take 4200, hl, fun h0 => ?_, fun k hk => ?_, by omega, by omega⟩
  · obtain ⟨g, o, e, hg, hk⟩ := h (by omega)
    exact ⟨g, o, e, hg, fun k hk' => by rw [ha k hk']; exact hk k (by omega)⟩
  · rw [ha k hk]
    exact hb k (by omega)
theorem decR_len (b : List Int) (h : b.length ≤ 4200) : (decR b).1.length ≤ 100000 := by
  unfold decR
  split
  · simp
  · split
    · rw [decL_len]; omega
    · simp

end Go.Proofs.Ytplndcjmbgkcjaa
