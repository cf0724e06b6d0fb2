/-
  The statement TnumTells: for every two Tnums, a number and a width, the law returns true, and its arguments read as they did.
  Conditions: none beyond the row's own.
-/
import Derived.Test.YtkiekbkjhlbnhaaTnumTells
import Derived.Test.YtkiekbkjhlbnhaaTnumOpen
namespace Go.Proofs.Ytkiekbkjhlbnhaa
open Go.ChangeShapes Go.WideShapes Go.ChangeAt Go.RowKit
set_option linter.unusedVariables false

set_option maxRecDepth 100000 in
theorem tells_lifted (os : Os) (started : os.Started) (H : Type) (enc : TypeId × Value → H) :
    ReturnsInHanded {} Try.checked os 3 .any (Rows.tnumTellsSpec.pre6 enc Try.prog Try.f3 Rows.tnumTellsRow.domain false) (Rows.tnumTellsSpec.post enc Try.prog Try.f3 false true false false) := by
  refine law_lifted (C := Try.checked) own_none started (by kernel_rfl) Try.func3
    (ChangeSpec.witness6 (enc := enc) (C := Try.checked) false ⟨#[], #[.agg #[.int .u64 0, .int .u64 0], .agg #[.int .u64 0, .int .u64 0], .int .u64 0, .int .i64 0], []⟩ 8 (by kernel_rfl) (by kernel_rfl) (by kernel_rfl) (by kernel_rfl))
    laid_out rfl rfl Try.underlying4 (by kernel_rfl) (fun ds hd => by match ds, hd with | [d1, d2, d3, d4], _ => rfl) ?_
  intro W base args ds p hval hA
  rw [Try.params3] at hval hA
  obtain ⟨v0, v1, v2, v3, d0, d1, d2, d3, p0, p1, p2, p3, rfl, rfl, rfl, h0, h1, h2, h3⟩ := trodAll_four hA
  obtain ⟨a, rfl⟩ := open_tnum (hval 0 _ _ rfl rfl) h0
  obtain ⟨b, rfl⟩ := open_tnum (hval 1 _ _ rfl rfl) h1
  obtain ⟨n, rfl, _, _, wn⟩ := open_int Try.underlying22 (hval 2 _ _ rfl rfl) h2
  obtain ⟨n, rfl⟩ := bv_of (bounds_u64 wn)
  obtain ⟨width, rfl, _, _, wwidth⟩ := open_int Try.underlying3 (hval 3 _ _ rfl rfl) h3
  exact tells_walk a b n width W (bounds_i64 wwidth)

theorem tells_holds : Rows.TnumTellsSaid :=
  OpenClaim.holds_of_wide 3 Try.f3 rfl rfl rfl rfl rfl rfl rfl ⟨rfl, rfl, rfl, rfl, rfl⟩ rfl rfl rfl rfl rfl (by kernel_rfl) Try.func3 (by kernel_rfl)
    (of_decide_eq_true (by kernel_rfl)) (by unfold Func.isWrapper; first | (rw [if_pos (by decide +kernel)]; kernel_rfl) | (rw [if_neg (by decide +kernel)]; exact ⟨rfl, rfl⟩))
    (fun os started H enc _ => tells_lifted os started H enc)

#print axioms tells_holds
end Go.Proofs.Ytkiekbkjhlbnhaa
