/-
  The statement MemLast: for any two numbers, wherever the second one is stored, however many bytes it has, the law returns true, and its arguments read as they did.
  Conditions: none beyond the row's own.
-/
import Derived.Test.YtegmhbflgceecaaMemLast
import Derived.Test.YtegmhbflgceecaaBytOpen
namespace Go.Proofs.Ytegmhbflgceecaa
open Go.ChangeShapes Go.WideShapes Go.ChangeAt Go.RowKit
set_option linter.unusedVariables false

set_option maxRecDepth 100000 in
theorem mlast_lifted (os : Os) (started : os.Started) (H : Type) (enc : TypeId × Value → H) :
    ReturnsInHanded {} Try.checked os 8 .any (Rows.memLastSpec.pre6 enc Try.prog Try.f8 Rows.memLastRow.domain false) (Rows.memLastSpec.post enc Try.prog Try.f8 false true false false) := by
  refine law_lifted (C := Try.checked) own_none started (by kernel_rfl) Try.func8
    (ChangeSpec.witness6 (enc := enc) (C := Try.checked) false ⟨#[], #[.int .u64 0, .int .u64 0, .int .u8 0, .int .u8 0], []⟩ 8 (by kernel_rfl) (by kernel_rfl) (by kernel_rfl) (by kernel_rfl))
    laid_out rfl rfl Try.underlying4 (by kernel_rfl) (fun ds hd => by match ds, hd with | [d1, d2, d3, d4], _ => rfl) ?_
  intro W base args ds p hval hA
  rw [Try.params8] at hval hA
  obtain ⟨v0, v1, v2, v3, d0, d1, d2, d3, p0, p1, p2, p3, rfl, rfl, rfl, h0, h1, h2, h3⟩ := trodAll_four hA
  obtain ⟨a, rfl, _, _, wa⟩ := open_int Try.underlying31 (hval 0 _ _ rfl rfl) h0
  obtain ⟨b, rfl, _, _, wb⟩ := open_int Try.underlying31 (hval 1 _ _ rfl rfl) h1
  obtain ⟨off, rfl, _, _, woff⟩ := open_int Try.underlying5 (hval 2 _ _ rfl rfl) h2
  obtain ⟨size, rfl, _, _, wsize⟩ := open_int Try.underlying5 (hval 3 _ _ rfl rfl) h3
  exact l8_MemLast a b off size W (bounds_u64 wa) (bounds_u64 wb) (bounds_u8 woff) (bounds_u8 wsize)

theorem mlast_holds : Rows.MemLastSaid :=
  OpenClaim.holds_of_wide 8 Try.f8 rfl rfl rfl rfl rfl rfl rfl ⟨rfl, rfl, rfl, rfl, rfl⟩ rfl rfl rfl rfl rfl (by kernel_rfl) Try.func8 (by kernel_rfl)
    (of_decide_eq_true (by kernel_rfl)) (by unfold Func.isWrapper; first | (rw [if_pos (by decide +kernel)]; kernel_rfl) | (rw [if_neg (by decide +kernel)]; exact ⟨rfl, rfl⟩))
    (fun os started H enc _ => mlast_lifted os started H enc)

#print axioms mlast_holds
end Go.Proofs.Ytegmhbflgceecaa
