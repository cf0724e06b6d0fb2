/-
  The statement MemParts: for all numbers, wherever, the law returns true, and its arguments read as they did.
  Conditions: none beyond the row's own.
-/
import Derived.Test.YtegmhbflgceecaaMemParts
import Derived.Test.YtegmhbflgceecaaBytOpen
namespace Go.Proofs.Ytegmhbflgceecaa
open Go.ChangeShapes Go.WideShapes Go.ChangeAt Go.RowKit
set_option linter.unusedVariables false

set_option maxRecDepth 100000 in
theorem mparts_lifted (os : Os) (started : os.Started) (H : Type) (enc : TypeId × Value → H) :
    ReturnsInHanded {} Try.checked os 5 .any (Rows.memPartsSpec.pre6 enc Try.prog Try.f5 Rows.memPartsRow.domain false) (Rows.memPartsSpec.post enc Try.prog Try.f5 false true false false) := by
  refine law_lifted (C := Try.checked) own_none started (by kernel_rfl) Try.func5
    (ChangeSpec.witness6 (enc := enc) (C := Try.checked) false ⟨#[], #[.int .u64 0, .int .u8 0], []⟩ 8 (by kernel_rfl) (by kernel_rfl) (by kernel_rfl) (by kernel_rfl))
    laid_out rfl rfl Try.underlying4 (by kernel_rfl) (fun ds hd => by match ds, hd with | [d1, d2], _ => rfl) ?_
  intro W base args ds p hval hA
  rw [Try.params5] at hval hA
  obtain ⟨v0, v1, d0, d1, p0, p1, rfl, rfl, rfl, h0, h1⟩ := trodAll_two hA
  obtain ⟨n, rfl, _, _, wn⟩ := open_int Try.underlying31 (hval 0 _ _ rfl rfl) h0
  obtain ⟨off, rfl, _, _, woff⟩ := open_int Try.underlying5 (hval 1 _ _ rfl rfl) h1
  exact l8_MemParts n off W (bounds_u64 wn) (bounds_u8 woff)

theorem mparts_holds : Rows.MemPartsSaid :=
  OpenClaim.holds_of_wide 5 Try.f5 rfl rfl rfl rfl rfl rfl rfl ⟨rfl, rfl, rfl, rfl, rfl⟩ rfl rfl rfl rfl rfl (by kernel_rfl) Try.func5 (by kernel_rfl)
    (of_decide_eq_true (by kernel_rfl)) (by unfold Func.isWrapper; first | (rw [if_pos (by decide +kernel)]; kernel_rfl) | (rw [if_neg (by decide +kernel)]; exact ⟨rfl, rfl⟩))
    (fun os started H enc _ => mparts_lifted os started H enc)

#print axioms mparts_holds
end Go.Proofs.Ytegmhbflgceecaa
