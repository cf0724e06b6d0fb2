/-
  The statement InsnParts: for every two instructions the law returns true, and its arguments read as they did.
  Conditions: none beyond the row's own.
-/
import Derived.Test.YtkggikcgaalgiaaParts
import Derived.Test.YtkggikcgaalgiaaOpen
namespace Go.Proofs.Ytkggikcgaalgiaa
open Go.ChangeShapes Go.WideShapes Go.ChangeAt Go.RowKit
set_option linter.unusedVariables false

set_option maxRecDepth 100000 in
theorem parts_lifted (os : Os) (started : os.Started) (H : Type) (enc : TypeId × Value → H) :
    ReturnsInHanded {} Try.checked os 7 .any (Rows.insnPartsSpec.pre6 enc Try.prog Try.f7 Rows.insnPartsRow.domain false) (Rows.insnPartsSpec.post enc Try.prog Try.f7 false true false false) := by
  refine law_lifted (C := Try.checked) own_none started (by kernel_rfl) Try.func7
    (ChangeSpec.witness6 (enc := enc) (C := Try.checked) false ⟨#[], #[.agg #[.int .u8 0, .int .u8 0, .int .u8 0, .int .i16 0, .int .i32 0], .agg #[.int .u8 0, .int .u8 0, .int .u8 0, .int .i16 0, .int .i32 0]], []⟩ 8 (by kernel_rfl) (by kernel_rfl) (by kernel_rfl) (by kernel_rfl))
    laid_out rfl rfl Try.underlying4 (by kernel_rfl) (fun ds hd => by match ds, hd with | [d1, d2], _ => rfl) ?_
  intro W base args ds p hval hA
  rw [Try.params7] at hval hA
  obtain ⟨v0, v1, d0, d1, p0, p1, rfl, rfl, rfl, h0, h1⟩ := trodAll_two hA
  obtain ⟨op, dst, src, off, imm, rfl, hf⟩ := open_insn (hval 0 _ _ rfl rfl) h0
  obtain ⟨op', dst', src', off', imm', rfl, hf'⟩ := open_insn (hval 1 _ _ rfl rfl) h1
  by_cases hd : 15 < dst
  · exact parts_dst op dst src off imm op' dst' src' off' imm' W hd
  · by_cases hs : 15 < src
    · exact parts_src op dst src off imm op' dst' src' off' imm' W (by omega) hs
    · exact parts_ok op dst src off imm op' dst' src' off' imm' W hf hf' (by omega) (by omega)

theorem parts_holds : Rows.InsnPartsSaid :=
  OpenClaim.holds_of_wide 7 Try.f7 rfl rfl rfl rfl rfl rfl rfl ⟨rfl, rfl, rfl, rfl, rfl⟩ rfl rfl rfl rfl rfl (by kernel_rfl) Try.func7 (by kernel_rfl)
    (of_decide_eq_true (by kernel_rfl)) (by unfold Func.isWrapper; first | (rw [if_pos (by decide +kernel)]; kernel_rfl) | (rw [if_neg (by decide +kernel)]; exact ⟨rfl, rfl⟩))
    (fun os started H enc _ => parts_lifted os started H enc)

#print axioms parts_holds
end Go.Proofs.Ytkggikcgaalgiaa
