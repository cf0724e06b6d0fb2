/-
  The statement MemKeeps: for all bytes, wherever, however many, whatever is stored, the law returns true, and its arguments read as they did.
  Conditions: none beyond the row's own.
-/
import Derived.Test.YtegmhbflgceecaaMemKeeps
import Derived.Test.YtegmhbflgceecaaBytOpen
namespace Go.Proofs.Ytegmhbflgceecaa
open Go.ChangeShapes Go.WideShapes Go.ChangeAt Go.RowKit
set_option linter.unusedVariables false

set_option maxRecDepth 100000 in
theorem mkeeps_lifted (os : Os) (started : os.Started) (H : Type) (enc : TypeId × Value → H) :
    ReturnsInHanded {} Try.checked os 4 .any (Rows.memKeepsSpec.pre6 enc Try.prog Try.f4 Rows.memKeepsRow.domain false) (Rows.memKeepsSpec.post enc Try.prog Try.f4 false true false false) := by
  refine law_lifted (C := Try.checked) own_none started (by kernel_rfl) Try.func4
    (ChangeSpec.witness6 (enc := enc) (C := Try.checked) false ⟨#[], #[.slice none 0 0, .int .u16 0, .int .u8 0, .int .u64 0, .bool false], []⟩ 8 (by kernel_rfl) (by kernel_rfl) (by kernel_rfl) (by kernel_rfl))
    laid_out rfl rfl Try.underlying4 (by kernel_rfl) (fun ds hd => by match ds, hd with | [d1, d2, d3, d4, d5], _ => rfl) ?_
  intro W base args ds p hval hA
  rw [Try.params4] at hval hA
  obtain ⟨v0, v1, v2, v3, v4, d0, d1, d2, d3, d4, p0, p1, p2, p3, p4, rfl, rfl, rfl, h0, h1, h2, h3, h4⟩ := trodAll_five hA
  obtain ⟨B, d, b, rfl, hb, hob, hd, hmb⟩ := open_bytes (hval 0 _ _ rfl rfl) h0
  obtain ⟨off, rfl, _, _, woff⟩ := open_int Try.underlying46 (hval 1 _ _ rfl rfl) h1
  obtain ⟨size, rfl, _, _, wsize⟩ := open_int Try.underlying5 (hval 2 _ _ rfl rfl) h2
  obtain ⟨n, rfl, _, _, wn⟩ := open_int Try.underlying31 (hval 3 _ _ rfl rfl) h3
  obtain ⟨bl, rfl, _, _⟩ := open_bool Try.underlying4 (hval 4 _ _ rfl rfl) h4
  exact l8_MemKeeps b B d off size n bl W hb hob hd hmb (bounds_u16 woff) (bounds_u8 wsize) (bounds_u64 wn)

theorem mkeeps_holds : Rows.MemKeepsSaid :=
  OpenClaim.holds_of_wide 4 Try.f4 rfl rfl rfl rfl rfl rfl rfl ⟨rfl, rfl, rfl, rfl, rfl⟩ rfl rfl rfl rfl rfl (by kernel_rfl) Try.func4 (by kernel_rfl)
    (of_decide_eq_true (by kernel_rfl)) (by unfold Func.isWrapper; first | (rw [if_pos (by decide +kernel)]; kernel_rfl) | (rw [if_neg (by decide +kernel)]; exact ⟨rfl, rfl⟩))
    (fun os started H enc _ => mkeeps_lifted os started H enc)

#print axioms mkeeps_holds
end Go.Proofs.Ytegmhbflgceecaa
