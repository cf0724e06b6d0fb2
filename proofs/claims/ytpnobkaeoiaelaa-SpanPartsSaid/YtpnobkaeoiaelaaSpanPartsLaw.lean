/-
  The statement SpanParts: for every three spans that are right and a number, the law returns true, and its arguments read as they did.
  Conditions: none beyond the row's own.
-/
import Derived.Test.YtpnobkaeoiaelaaSpanParts
import Derived.Test.YtpnobkaeoiaelaaSpanOpen
namespace Go.Proofs.Ytpnobkaeoiaelaa
open Go.ChangeShapes Go.WideShapes Go.ChangeAt Go.RowKit
set_option linter.unusedVariables false

set_option maxRecDepth 100000 in
theorem sparts_lifted (os : Os) (started : os.Started) (H : Type) (enc : TypeId × Value → H) :
    ReturnsInHanded {} Try.checked os 6 .any (Rows.spanPartsSpec.pre6 enc Try.prog Try.f6 Rows.spanPartsRow.domain false) (Rows.spanPartsSpec.post enc Try.prog Try.f6 false true false false) := by
  refine law_lifted (C := Try.checked) own_none started (by kernel_rfl) Try.func6
    (ChangeSpec.witness6 (enc := enc) (C := Try.checked) false ⟨#[], #[.agg #[.int .u64 0, .int .u64 0, .int .u64 0, .int .u64 0, .int .u64 0, .int .u64 0], .int .u64 0], []⟩ 8 (by kernel_rfl) (by kernel_rfl) (by kernel_rfl) (by kernel_rfl))
    laid_out rfl rfl Try.underlying4 (by kernel_rfl) (fun ds hd => by match ds, hd with | [d1, d2], _ => rfl) ?_
  intro W base args ds p hval hA
  rw [Try.params6] at hval hA
  obtain ⟨v0, v1, d0, d1, p0, p1, rfl, rfl, rfl, h0, h1⟩ := trodAll_two hA
  obtain ⟨n0, n1, n2, n3, n4, n5, rfl, k0, k1, k2, k3, k4, k5⟩ := open_six (hval 0 _ _ rfl rfl) h0
  obtain ⟨o, rfl, _, _, wo⟩ := open_int Try.underlying22 (hval 1 _ _ rfl rfl) h1
  exact sparts_walk n0 n1 n2 n3 n4 n5 o W k0 k1 k2 k3 k4 k5 (bounds_u64 wo)

theorem sparts_holds : Rows.SpanPartsSaid :=
  OpenClaim.holds_of_wide 6 Try.f6 rfl rfl rfl rfl rfl rfl rfl ⟨rfl, rfl, rfl, rfl, rfl⟩ rfl rfl rfl rfl rfl (by kernel_rfl) Try.func6 (by kernel_rfl)
    (of_decide_eq_true (by kernel_rfl)) (by unfold Func.isWrapper; first | (rw [if_pos (by decide +kernel)]; kernel_rfl) | (rw [if_neg (by decide +kernel)]; exact ⟨rfl, rfl⟩))
    (fun os started H enc _ => sparts_lifted os started H enc)

#print axioms sparts_holds
end Go.Proofs.Ytpnobkaeoiaelaa
