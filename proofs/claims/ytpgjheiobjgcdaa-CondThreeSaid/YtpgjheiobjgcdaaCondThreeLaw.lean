/-
  The statement CondThree: for every three numbers, narrow or wide, signed or not, the law returns true, and its arguments read as they did.
  Conditions: none beyond the row's own.
-/
import Derived.Test.YtpgjheiobjgcdaaCondThree
import Derived.Test.YtpgjheiobjgcdaaBase
namespace Go.Proofs.Ytpgjheiobjgcdaa
open Go.ChangeShapes Go.WideShapes Go.ChangeAt Go.RowKit
set_option linter.unusedVariables false

set_option maxRecDepth 100000 in
theorem three_lifted (os : Os) (started : os.Started) (H : Type) (enc : TypeId × Value → H) :
    ReturnsInHanded {} Try.checked os 6 .any (Rows.condThreeSpec.pre6 enc Try.prog Try.f6 Rows.condThreeRow.domain false) (Rows.condThreeSpec.post enc Try.prog Try.f6 false true false false) := by
  refine law_lifted (C := Try.checked) own_none started (by kernel_rfl) Try.func6
    (ChangeSpec.witness6 (enc := enc) (C := Try.checked) false ⟨#[], #[.bool false, .bool false, .int .u64 0, .int .u64 0, .int .u64 0], []⟩ 8 (by kernel_rfl) (by kernel_rfl) (by kernel_rfl) (by kernel_rfl))
    laid_out rfl rfl Try.underlying4 (by kernel_rfl) (fun ds hd => by match ds, hd with | [d1, d2, d3, d4, d5], _ => rfl) ?_
  intro W base args ds p hval hA
  rw [Try.params6] at hval hA
  obtain ⟨v0, v1, v2, v3, v4, d0, d1, d2, d3, d4, p0, p1, p2, p3, p4, rfl, rfl, rfl, h0, h1, h2, h3, h4⟩ := trodAll_five hA
  obtain ⟨wide, rfl, _, _⟩ := open_bool Try.underlying4 (hval 0 _ _ rfl rfl) h0
  obtain ⟨signed, rfl, _, _⟩ := open_bool Try.underlying4 (hval 1 _ _ rfl rfl) h1
  obtain ⟨a, rfl, _, _, wa⟩ := open_int Try.underlying22 (hval 2 _ _ rfl rfl) h2
  obtain ⟨b, rfl, _, _, wb⟩ := open_int Try.underlying22 (hval 3 _ _ rfl rfl) h3
  obtain ⟨c, rfl, _, _, wc⟩ := open_int Try.underlying22 (hval 4 _ _ rfl rfl) h4
  exact three_walk wide signed a b c W (bounds_u64 wa) (bounds_u64 wb) (bounds_u64 wc)

theorem three_holds : Rows.CondThreeSaid :=
  OpenClaim.holds_of_wide 6 Try.f6 rfl rfl rfl rfl rfl rfl rfl ⟨rfl, rfl, rfl, rfl, rfl⟩ rfl rfl rfl rfl rfl (by kernel_rfl) Try.func6 (by kernel_rfl)
    (of_decide_eq_true (by kernel_rfl)) (by unfold Func.isWrapper; first | (rw [if_pos (by decide +kernel)]; kernel_rfl) | (rw [if_neg (by decide +kernel)]; exact ⟨rfl, rfl⟩))
    (fun os started H enc _ => three_lifted os started H enc)

#print axioms three_holds
end Go.Proofs.Ytpgjheiobjgcdaa
