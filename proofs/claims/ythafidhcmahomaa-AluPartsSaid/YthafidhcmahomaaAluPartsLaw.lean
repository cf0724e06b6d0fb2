/-
  The statement AluParts: wide or not, signed or not, for every two numbers, the law returns true, and its arguments read as they did.
  Conditions: none beyond the row's own.
-/
import Derived.Test.YthafidhcmahomaaAluParts
import Derived.Test.YthafidhcmahomaaBase
namespace Go.Proofs.Ythafidhcmahomaa
open Go.ChangeShapes Go.WideShapes Go.ChangeAt Go.RowKit
set_option linter.unusedVariables false

set_option maxRecDepth 100000 in
theorem parts_lifted (os : Os) (started : os.Started) (H : Type) (enc : TypeId × Value → H) :
    ReturnsInHanded {} Try.checked os 6 .any (Rows.aluPartsSpec.pre6 enc Try.prog Try.f6 Rows.aluPartsRow.domain false) (Rows.aluPartsSpec.post enc Try.prog Try.f6 false true false false) := by
  refine law_lifted (C := Try.checked) own_none started (by kernel_rfl) Try.func6
    (ChangeSpec.witness6 (enc := enc) (C := Try.checked) false ⟨#[], #[.bool false, .bool false, .int .u64 0, .int .u64 0], []⟩ 8 (by kernel_rfl) (by kernel_rfl) (by kernel_rfl) (by kernel_rfl))
    laid_out rfl rfl Try.underlying4 (by kernel_rfl) (fun ds hd => by match ds, hd with | [d1, d2, d3, d4], _ => rfl) ?_
  intro W base args ds p hval hA
  rw [Try.params6] at hval hA
  obtain ⟨v0, v1, v2, v3, d0, d1, d2, d3, p0, p1, p2, p3, rfl, rfl, rfl, h0, h1, h2, h3⟩ := trodAll_four hA
  obtain ⟨wide, rfl, _, _⟩ := open_bool Try.underlying4 (hval 0 _ _ rfl rfl) h0
  obtain ⟨signed, rfl, _, _⟩ := open_bool Try.underlying4 (hval 1 _ _ rfl rfl) h1
  obtain ⟨a, rfl, _, _, wa⟩ := open_int Try.underlying23 (hval 2 _ _ rfl rfl) h2
  obtain ⟨b, rfl, _, _, wb⟩ := open_int Try.underlying23 (hval 3 _ _ rfl rfl) h3
  exact parts_walk wide signed a b W (bounds_u64 wa) (bounds_u64 wb)

theorem parts_holds : Rows.AluPartsSaid :=
  OpenClaim.holds_of_wide 6 Try.f6 rfl rfl rfl rfl rfl rfl rfl ⟨rfl, rfl, rfl, rfl, rfl⟩ rfl rfl rfl rfl rfl (by kernel_rfl) Try.func6 (by kernel_rfl)
    (of_decide_eq_true (by kernel_rfl)) (by unfold Func.isWrapper; first | (rw [if_pos (by decide +kernel)]; kernel_rfl) | (rw [if_neg (by decide +kernel)]; exact ⟨rfl, rfl⟩))
    (fun os started H enc _ => parts_lifted os started H enc)

#print axioms parts_holds
end Go.Proofs.Ythafidhcmahomaa
