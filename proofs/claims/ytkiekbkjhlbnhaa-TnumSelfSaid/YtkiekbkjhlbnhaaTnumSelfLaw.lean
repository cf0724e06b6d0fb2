/-
  The statement TnumSelf: for every Tnum that is right, two numbers and a width, the law returns true, and its arguments read as they did.
  Conditions: none beyond the row's own.
-/
import Derived.Test.YtkiekbkjhlbnhaaTnumSelf
import Derived.Test.YtkiekbkjhlbnhaaTnumOpen
namespace Go.Proofs.Ytkiekbkjhlbnhaa
open Go.ChangeShapes Go.WideShapes Go.ChangeAt Go.RowKit
set_option linter.unusedVariables false

set_option maxRecDepth 100000 in
theorem self_lifted (os : Os) (started : os.Started) (H : Type) (enc : TypeId × Value → H) :
    ReturnsInHanded {} Try.checked os 8 .any (Rows.tnumSelfSpec.pre6 enc Try.prog Try.f8 Rows.tnumSelfRow.domain false) (Rows.tnumSelfSpec.post enc Try.prog Try.f8 false true false false) := by
  refine law_lifted (C := Try.checked) own_none started (by kernel_rfl) Try.func8
    (ChangeSpec.witness6 (enc := enc) (C := Try.checked) false ⟨#[], #[.int .u64 0, .int .u64 0, .int .u64 0, .int .u64 0, .int .u8 0], []⟩ 8 (by kernel_rfl) (by kernel_rfl) (by kernel_rfl) (by kernel_rfl))
    laid_out rfl rfl Try.underlying4 (by kernel_rfl) (fun ds hd => by match ds, hd with | [d1, d2, d3, d4, d5], _ => rfl) ?_
  intro W base args ds p hval hA
  rw [Try.params8] at hval hA
  obtain ⟨v0, v1, v2, v3, v4, d0, d1, d2, d3, d4, p0, p1, p2, p3, p4, rfl, rfl, rfl, h0, h1, h2, h3, h4⟩ := trodAll_five hA
  obtain ⟨v, rfl, _, _, wv⟩ := open_int Try.underlying22 (hval 0 _ _ rfl rfl) h0
  obtain ⟨v, rfl⟩ := bv_of (bounds_u64 wv)
  obtain ⟨m, rfl, _, _, wm⟩ := open_int Try.underlying22 (hval 1 _ _ rfl rfl) h1
  obtain ⟨m, rfl⟩ := bv_of (bounds_u64 wm)
  obtain ⟨n, rfl, _, _, wn⟩ := open_int Try.underlying22 (hval 2 _ _ rfl rfl) h2
  obtain ⟨n, rfl⟩ := bv_of (bounds_u64 wn)
  obtain ⟨o, rfl, _, _, wo⟩ := open_int Try.underlying22 (hval 3 _ _ rfl rfl) h3
  obtain ⟨o, rfl⟩ := bv_of (bounds_u64 wo)
  obtain ⟨width, rfl, _, _, wwidth⟩ := open_int Try.underlying5 (hval 4 _ _ rfl rfl) h4
  exact self_walk v m n o width W (bounds_u8 wwidth)

theorem self_holds : Rows.TnumSelfSaid :=
  OpenClaim.holds_of_wide 8 Try.f8 rfl rfl rfl rfl rfl rfl rfl ⟨rfl, rfl, rfl, rfl, rfl⟩ rfl rfl rfl rfl rfl (by kernel_rfl) Try.func8 (by kernel_rfl)
    (of_decide_eq_true (by kernel_rfl)) (by unfold Func.isWrapper; first | (rw [if_pos (by decide +kernel)]; kernel_rfl) | (rw [if_neg (by decide +kernel)]; exact ⟨rfl, rfl⟩))
    (fun os started H enc _ => self_lifted os started H enc)

#print axioms self_holds
end Go.Proofs.Ytkiekbkjhlbnhaa
