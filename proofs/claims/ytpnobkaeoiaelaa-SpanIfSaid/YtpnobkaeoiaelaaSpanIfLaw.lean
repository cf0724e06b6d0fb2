/-
  The statement SpanIf: for every condition, two spans that are right and a number of each, the law returns true, and its arguments read as they did.
  Conditions: none beyond the row's own.
-/
import Derived.Test.YtpnobkaeoiaelaaSpanIfLaw1
import Derived.Test.YtpnobkaeoiaelaaSpanOpen
namespace Go.Proofs.Ytpnobkaeoiaelaa
open Go.ChangeShapes Go.WideShapes Go.ChangeAt Go.RowKit
set_option linter.unusedVariables false

set_option maxRecDepth 100000 in
theorem sifl_lifted (os : Os) (started : os.Started) (H : Type) (enc : TypeId × Value → H) :
    ReturnsInHanded {} Try.checked os 5 .any (Rows.spanIfSpec.pre6 enc Try.prog Try.f5 Rows.spanIfRow.domain false) (Rows.spanIfSpec.post enc Try.prog Try.f5 false true false false) := by
  refine law_lifted (C := Try.checked) own_none started (by kernel_rfl) Try.func5
    (ChangeSpec.witness6 (enc := enc) (C := Try.checked) false ⟨#[], #[.int .u8 0, .int .u64 0, .int .u64 0, .int .u64 0, .int .u64 0, .int .u64 0, .int .u64 0], []⟩ 8 (by kernel_rfl) (by kernel_rfl) (by kernel_rfl) (by kernel_rfl))
    laid_out rfl rfl Try.underlying4 (by kernel_rfl) (fun ds hd => by match ds, hd with | [d1, d2, d3, d4, d5, d6, d7], _ => rfl) ?_
  intro W base args ds p hval hA
  rw [Try.params5] at hval hA
  obtain ⟨v0, v1, v2, v3, v4, v5, v6, d0, d1, d2, d3, d4, d5, d6, p0, p1, p2, p3, p4, p5, p6, rfl, rfl, rfl, h0, h1, h2, h3, h4, h5, h6⟩ := trodAll_seven hA
  obtain ⟨op, rfl, _, _, wop⟩ := open_int Try.underlying5 (hval 0 _ _ rfl rfl) h0
  obtain ⟨a, rfl, _, _, wa⟩ := open_int Try.underlying22 (hval 1 _ _ rfl rfl) h1
  obtain ⟨b, rfl, _, _, wb⟩ := open_int Try.underlying22 (hval 2 _ _ rfl rfl) h2
  obtain ⟨n, rfl, _, _, wn⟩ := open_int Try.underlying22 (hval 3 _ _ rfl rfl) h3
  obtain ⟨c, rfl, _, _, wc⟩ := open_int Try.underlying22 (hval 4 _ _ rfl rfl) h4
  obtain ⟨d, rfl, _, _, wd⟩ := open_int Try.underlying22 (hval 5 _ _ rfl rfl) h5
  obtain ⟨m, rfl, _, _, wm⟩ := open_int Try.underlying22 (hval 6 _ _ rfl rfl) h6
  exact sifl_walk op a b n c d m W (bounds_u64 wa) (bounds_u64 wb) (bounds_u64 wn) (bounds_u64 wc) (bounds_u64 wd) (bounds_u64 wm)

theorem sifl_holds : Rows.SpanIfSaid :=
  OpenClaim.holds_of_wide 5 Try.f5 rfl rfl rfl rfl rfl rfl rfl ⟨rfl, rfl, rfl, rfl, rfl⟩ rfl rfl rfl rfl rfl (by kernel_rfl) Try.func5 (by kernel_rfl)
    (of_decide_eq_true (by kernel_rfl)) (by unfold Func.isWrapper; first | (rw [if_pos (by decide +kernel)]; kernel_rfl) | (rw [if_neg (by decide +kernel)]; exact ⟨rfl, rfl⟩))
    (fun os started H enc _ => sifl_lifted os started H enc)

#print axioms sifl_holds
end Go.Proofs.Ytpnobkaeoiaelaa
