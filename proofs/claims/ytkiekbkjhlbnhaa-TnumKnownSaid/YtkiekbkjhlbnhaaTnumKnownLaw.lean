/-
  The statement TnumKnown: for every op, two numbers and a width, the law returns true, and its arguments read as they did.
  Conditions: none beyond the row's own.
-/
import Derived.Test.YtkiekbkjhlbnhaaTnumKnown
import Derived.Test.YtkiekbkjhlbnhaaTnumOpen
namespace Go.Proofs.Ytkiekbkjhlbnhaa
open Go.ChangeShapes Go.WideShapes Go.ChangeAt Go.RowKit
set_option linter.unusedVariables false

set_option maxRecDepth 100000 in
theorem known_lifted (os : Os) (started : os.Started) (H : Type) (enc : TypeId × Value → H) :
    ReturnsInHanded {} Try.checked os 7 .any (Rows.tnumKnownSpec.pre6 enc Try.prog Try.f7 Rows.tnumKnownRow.domain false) (Rows.tnumKnownSpec.post enc Try.prog Try.f7 false true false false) := by
  refine law_lifted (C := Try.checked) own_none started (by kernel_rfl) Try.func7
    (ChangeSpec.witness6 (enc := enc) (C := Try.checked) false ⟨#[], #[.int .u8 0, .int .u64 0, .int .u64 0, .int .u8 0], []⟩ 8 (by kernel_rfl) (by kernel_rfl) (by kernel_rfl) (by kernel_rfl))
    laid_out rfl rfl Try.underlying4 (by kernel_rfl) (fun ds hd => by match ds, hd with | [d1, d2, d3, d4], _ => rfl) ?_
  intro W base args ds p hval hA
  rw [Try.params7] at hval hA
  obtain ⟨v0, v1, v2, v3, d0, d1, d2, d3, p0, p1, p2, p3, rfl, rfl, rfl, h0, h1, h2, h3⟩ := trodAll_four hA
  obtain ⟨op, rfl, _, _, wop⟩ := open_int Try.underlying5 (hval 0 _ _ rfl rfl) h0
  obtain ⟨a, rfl, _, _, wa⟩ := open_int Try.underlying22 (hval 1 _ _ rfl rfl) h1
  obtain ⟨a, rfl⟩ := bv_of (bounds_u64 wa)
  obtain ⟨b, rfl, _, _, wb⟩ := open_int Try.underlying22 (hval 2 _ _ rfl rfl) h2
  obtain ⟨b, rfl⟩ := bv_of (bounds_u64 wb)
  obtain ⟨width, rfl, _, _, wwidth⟩ := open_int Try.underlying5 (hval 3 _ _ rfl rfl) h3
  exact known_walk op a b width W (bounds_u8 wwidth)

theorem known_holds : Rows.TnumKnownSaid :=
  OpenClaim.holds_of_wide 7 Try.f7 rfl rfl rfl rfl rfl rfl rfl ⟨rfl, rfl, rfl, rfl, rfl⟩ rfl rfl rfl rfl rfl (by kernel_rfl) Try.func7 (by kernel_rfl)
    (of_decide_eq_true (by kernel_rfl)) (by unfold Func.isWrapper; first | (rw [if_pos (by decide +kernel)]; kernel_rfl) | (rw [if_neg (by decide +kernel)]; exact ⟨rfl, rfl⟩))
    (fun os started H enc _ => known_lifted os started H enc)

#print axioms known_holds
end Go.Proofs.Ytkiekbkjhlbnhaa
