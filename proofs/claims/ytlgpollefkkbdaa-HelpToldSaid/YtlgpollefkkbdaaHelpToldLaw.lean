/-
  The statement HelpTold: for all numbers, the law returns true, and its arguments read as they did.
  Conditions: none beyond the row's own.
-/
import Derived.Test.YtlgpollefkkbdaaHelpTold
import Derived.Test.YtlgpollefkkbdaaBytOpen
import Derived.Test.YtlgpollefkkbdaaLeaf
namespace Go.Proofs.Ytlgpollefkkbdaa
open Go.ChangeShapes Go.WideShapes Go.ChangeAt Go.RowKit
set_option linter.unusedVariables false

set_option maxRecDepth 100000 in
theorem htold_lifted (os : Os) (started : os.Started) (H : Type) (enc : TypeId × Value → H) :
    ReturnsInHanded {} Try.checked os 6 .any (Rows.helpToldSpec.pre6 enc Try.prog Try.f6 Rows.helpToldRow.domain false) (Rows.helpToldSpec.post enc Try.prog Try.f6 false true false false) := by
  refine law_lifted (C := Try.checked) own_none started (by kernel_rfl) Try.func6
    (ChangeSpec.witness6 (enc := enc) (C := Try.checked) false ⟨#[], #[.int .i64 0], []⟩ 8 (by kernel_rfl) (by kernel_rfl) (by kernel_rfl) (by kernel_rfl))
    laid_out rfl rfl Try.underlying4 (by kernel_rfl) (fun ds hd => by match ds, hd with | [d1], _ => rfl) ?_
  intro W base args ds p hval hA
  rw [Try.params6] at hval hA
  obtain ⟨v0, d0, rfl, rfl, h0⟩ := trodAll_one hA
  obtain ⟨i, rfl, _, _, wi⟩ := open_int Try.underlying3 (hval 0 _ _ rfl rfl) h0
  exact l10_HelpTold i W

theorem htold_holds : Rows.HelpToldSaid :=
  OpenClaim.holds_of_wide 6 Try.f6 rfl rfl rfl rfl rfl rfl rfl ⟨rfl, rfl, rfl, rfl, rfl⟩ rfl rfl rfl rfl rfl (by kernel_rfl) Try.func6 (by kernel_rfl)
    (of_decide_eq_true (by kernel_rfl)) (by unfold Func.isWrapper; first | (rw [if_pos (by decide +kernel)]; kernel_rfl) | (rw [if_neg (by decide +kernel)]; exact ⟨rfl, rfl⟩))
    (fun os started H enc _ => htold_lifted os started H enc)

#print axioms htold_holds
end Go.Proofs.Ytlgpollefkkbdaa
