/-
  The statement MemApart: for any bytes of two areas, wherever, any number, the law returns true, and its arguments read as they did.
  Conditions: none beyond the row's own.
-/
import Derived.Test.YtegmhbflgceecaaMemApart
import Derived.Test.YtegmhbflgceecaaBytOpen
namespace Go.Proofs.Ytegmhbflgceecaa
open Go.ChangeShapes Go.WideShapes Go.ChangeAt Go.RowKit
set_option linter.unusedVariables false

set_option maxRecDepth 100000 in
theorem mapart_lifted (os : Os) (started : os.Started) (H : Type) (enc : TypeId × Value → H) :
    ReturnsInHanded {} Try.checked os 6 .any (Rows.memApartSpec.pre6 enc Try.prog Try.f6 Rows.memApartRow.domain false) (Rows.memApartSpec.post enc Try.prog Try.f6 false true false false) := by
  refine law_lifted (C := Try.checked) own_none started (by kernel_rfl) Try.func6
    (ChangeSpec.witness6 (enc := enc) (C := Try.checked) false ⟨#[], #[.slice none 0 0, .slice none 0 0, .int .u64 0, .int .u64 0], []⟩ 8 (by kernel_rfl) (by kernel_rfl) (by kernel_rfl) (by kernel_rfl))
    laid_out rfl rfl Try.underlying4 (by kernel_rfl) (fun ds hd => by match ds, hd with | [d1, d2, d3, d4], _ => rfl) ?_
  intro W base args ds p hval hA
  rw [Try.params6] at hval hA
  obtain ⟨v0, v1, v2, v3, d0, d1, d2, d3, p0, p1, p2, p3, rfl, rfl, rfl, h0, h1, h2, h3⟩ := trodAll_four hA
  obtain ⟨B, d, b, rfl, hb, hob, hd, hmb⟩ := open_bytes (hval 0 _ _ rfl rfl) h0
  obtain ⟨B2, d2, b2, rfl, hb2, hob2, hd2, hmb2⟩ := open_bytes (hval 1 _ _ rfl rfl) h1
  obtain ⟨at_, rfl, _, _, wat_⟩ := open_int Try.underlying31 (hval 2 _ _ rfl rfl) h2
  obtain ⟨n, rfl, _, _, wn⟩ := open_int Try.underlying31 (hval 3 _ _ rfl rfl) h3
  exact l8_MemApart b b2 B B2 d d2 at_ n W hb hob hd hmb hb2 hob2 hd2 hmb2 (bounds_u64 wat_) (bounds_u64 wn)

theorem mapart_holds : Rows.MemApartSaid :=
  OpenClaim.holds_of_wide 6 Try.f6 rfl rfl rfl rfl rfl rfl rfl ⟨rfl, rfl, rfl, rfl, rfl⟩ rfl rfl rfl rfl rfl (by kernel_rfl) Try.func6 (by kernel_rfl)
    (of_decide_eq_true (by kernel_rfl)) (by unfold Func.isWrapper; first | (rw [if_pos (by decide +kernel)]; kernel_rfl) | (rw [if_neg (by decide +kernel)]; exact ⟨rfl, rfl⟩))
    (fun os started H enc _ => mapart_lifted os started H enc)

#print axioms mapart_holds
end Go.Proofs.Ytegmhbflgceecaa
