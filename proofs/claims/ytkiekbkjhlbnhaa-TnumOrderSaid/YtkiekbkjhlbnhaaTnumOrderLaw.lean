/-
  The statement TnumOrder: for every three Tnums that are right, the law returns true, and its arguments read as they did.
  Conditions: none beyond the row's own.
-/
import Derived.Test.YtkiekbkjhlbnhaaTnumOrder
import Derived.Test.YtkiekbkjhlbnhaaTnumOpen
namespace Go.Proofs.Ytkiekbkjhlbnhaa
open Go.ChangeShapes Go.WideShapes Go.ChangeAt Go.RowKit
set_option linter.unusedVariables false

set_option maxRecDepth 100000 in
theorem order_lifted (os : Os) (started : os.Started) (H : Type) (enc : TypeId × Value → H) :
    ReturnsInHanded {} Try.checked os 9 .any (Rows.tnumOrderSpec.pre6 enc Try.prog Try.f9 Rows.tnumOrderRow.domain false) (Rows.tnumOrderSpec.post enc Try.prog Try.f9 false true false false) := by
  refine law_lifted (C := Try.checked) own_none started (by kernel_rfl) Try.func9
    (ChangeSpec.witness6 (enc := enc) (C := Try.checked) false ⟨#[], #[.int .u64 0, .int .u64 0, .int .u64 0, .int .u64 0, .int .u64 0, .int .u64 0], []⟩ 8 (by kernel_rfl) (by kernel_rfl) (by kernel_rfl) (by kernel_rfl))
    laid_out rfl rfl Try.underlying4 (by kernel_rfl) (fun ds hd => by match ds, hd with | [d1, d2, d3, d4, d5, d6], _ => rfl) ?_
  intro W base args ds p hval hA
  rw [Try.params9] at hval hA
  obtain ⟨v0, v1, v2, v3, v4, v5, d0, d1, d2, d3, d4, d5, p0, p1, p2, p3, p4, p5, rfl, rfl, rfl, h0, h1, h2, h3, h4, h5⟩ := trodAll_six hA
  obtain ⟨v, rfl, _, _, wv⟩ := open_int Try.underlying22 (hval 0 _ _ rfl rfl) h0
  obtain ⟨v, rfl⟩ := bv_of (bounds_u64 wv)
  obtain ⟨m, rfl, _, _, wm⟩ := open_int Try.underlying22 (hval 1 _ _ rfl rfl) h1
  obtain ⟨m, rfl⟩ := bv_of (bounds_u64 wm)
  obtain ⟨x, rfl, _, _, wx⟩ := open_int Try.underlying22 (hval 2 _ _ rfl rfl) h2
  obtain ⟨x, rfl⟩ := bv_of (bounds_u64 wx)
  obtain ⟨k, rfl, _, _, wk⟩ := open_int Try.underlying22 (hval 3 _ _ rfl rfl) h3
  obtain ⟨k, rfl⟩ := bv_of (bounds_u64 wk)
  obtain ⟨y, rfl, _, _, wy⟩ := open_int Try.underlying22 (hval 4 _ _ rfl rfl) h4
  obtain ⟨y, rfl⟩ := bv_of (bounds_u64 wy)
  obtain ⟨o, rfl, _, _, wo⟩ := open_int Try.underlying22 (hval 5 _ _ rfl rfl) h5
  obtain ⟨o, rfl⟩ := bv_of (bounds_u64 wo)
  exact order_walk v m x k y o W

theorem order_holds : Rows.TnumOrderSaid :=
  OpenClaim.holds_of_wide 9 Try.f9 rfl rfl rfl rfl rfl rfl rfl ⟨rfl, rfl, rfl, rfl, rfl⟩ rfl rfl rfl rfl rfl (by kernel_rfl) Try.func9 (by kernel_rfl)
    (of_decide_eq_true (by kernel_rfl)) (by unfold Func.isWrapper; first | (rw [if_pos (by decide +kernel)]; kernel_rfl) | (rw [if_neg (by decide +kernel)]; exact ⟨rfl, rfl⟩))
    (fun os started H enc _ => order_lifted os started H enc)

#print axioms order_holds
end Go.Proofs.Ytkiekbkjhlbnhaa
