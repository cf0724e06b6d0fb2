/-
  The statement FactNarrow: for every op, off, wide or not, and two facts that two numbers may be, the law returns true, and its arguments read as they did.
  Conditions: none beyond the row's own.
-/
import Derived.Test.YtfepokiibdkoeaaFactNarrow
import Derived.Test.YtfepokiibdkoeaaAllB1
namespace Go.Proofs.Ytfepokiibdkoeaa
open Go.ChangeShapes Go.WideShapes Go.ChangeAt Go.RowKit
set_option linter.unusedVariables false

set_option maxRecDepth 100000 in
theorem fnarrow_lifted (os : Os) (started : os.Started) (H : Type) (enc : TypeId × Value → H) :
    ReturnsInHanded {} Try.checked os 11 .any (Rows.factNarrowSpec.pre6 enc Try.prog Try.f11 Rows.factNarrowRow.domain false) (Rows.factNarrowSpec.post enc Try.prog Try.f11 false true false false) := by
  refine law_lifted (C := Try.checked) own_none started (by kernel_rfl) Try.func11
    (ChangeSpec.witness6 (enc := enc) (C := Try.checked) false ⟨#[], #[.int .u8 0, .int .i16 0, .bool false, .agg #[.int .u64 0, .int .u64 0, .int .u64 0, .int .u64 0, .int .u64 0, .int .u64 0, .int .u64 0, .int .u64 0]], []⟩ 8 (by kernel_rfl) (by kernel_rfl) (by kernel_rfl) (by kernel_rfl))
    laid_out rfl rfl Try.underlying4 (by kernel_rfl) (fun ds hd => by match ds, hd with | [d1, d2, d3, d4], _ => rfl) ?_
  intro W base args ds p hval hA
  rw [Try.params11] at hval hA
  obtain ⟨v0, v1, v2, v3, d0, d1, d2, d3, p0, p1, p2, p3, rfl, rfl, rfl, h0, h1, h2, h3⟩ := trodAll_four hA
  obtain ⟨op, rfl, _, _, wop⟩ := open_int Try.underlying5 (hval 0 _ _ rfl rfl) h0
  obtain ⟨off, rfl, _, _, woff⟩ := open_int Try.underlying43 (hval 1 _ _ rfl rfl) h1
  obtain ⟨wide, rfl, _, _⟩ := open_bool Try.underlying4 (hval 2 _ _ rfl rfl) h2
  obtain ⟨n0, n1, n2, n3, n4, n5, n6, n7, rfl⟩ := open_eight (hval 3 _ _ rfl rfl) h3
  exact fnarrow_walk op off wide n0 n1 n2 n3 n4 n5 n6 n7 W

theorem fnarrow_holds : Rows.FactNarrowSaid :=
  OpenClaim.holds_of_wide 11 Try.f11 rfl rfl rfl rfl rfl rfl rfl ⟨rfl, rfl, rfl, rfl, rfl⟩ rfl rfl rfl rfl rfl (by kernel_rfl) Try.func11 (by kernel_rfl)
    (of_decide_eq_true (by kernel_rfl)) (by unfold Func.isWrapper; first | (rw [if_pos (by decide +kernel)]; kernel_rfl) | (rw [if_neg (by decide +kernel)]; exact ⟨rfl, rfl⟩))
    (fun os started H enc _ => fnarrow_lifted os started H enc)

#print axioms fnarrow_holds
end Go.Proofs.Ytfepokiibdkoeaa
