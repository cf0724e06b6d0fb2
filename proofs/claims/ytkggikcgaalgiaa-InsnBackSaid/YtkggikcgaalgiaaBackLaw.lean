/-
  The statement InsnBack: for every instruction and every eight bytes the law returns true, and its arguments read as they did.
  Conditions: none beyond the row's own.
-/
import Derived.Test.YtkggikcgaalgiaaBack
import Derived.Test.YtkggikcgaalgiaaOpen
namespace Go.Proofs.Ytkggikcgaalgiaa
open Go.ChangeShapes Go.WideShapes Go.ChangeAt Go.RowKit
set_option linter.unusedVariables false

set_option maxRecDepth 100000 in
theorem back_lifted (os : Os) (started : os.Started) (H : Type) (enc : TypeId × Value → H) :
    ReturnsInHanded {} Try.checked os 5 .any (Rows.insnBackSpec.pre6 enc Try.prog Try.f5 Rows.insnBackRow.domain false) (Rows.insnBackSpec.post enc Try.prog Try.f5 false true false false) := by
  refine law_lifted (C := Try.checked) own_none started (by kernel_rfl) Try.func5
    (ChangeSpec.witness6 (enc := enc) (C := Try.checked) false ⟨#[], #[.agg #[.int .u8 0, .int .u8 0, .int .u8 0, .int .i16 0, .int .i32 0], .agg #[.int .u8 0, .int .u8 0, .int .u8 0, .int .u8 0, .int .u8 0, .int .u8 0, .int .u8 0, .int .u8 0]], []⟩ 8 (by kernel_rfl) (by kernel_rfl) (by kernel_rfl) (by kernel_rfl))
    laid_out rfl rfl Try.underlying4 (by kernel_rfl) (fun ds hd => by match ds, hd with | [d1, d2], _ => rfl) ?_
  intro W base args ds p hval hA
  rw [Try.params5] at hval hA
  obtain ⟨v0, v1, d0, d1, p0, p1, rfl, rfl, rfl, h0, h1⟩ := trodAll_two hA
  obtain ⟨op, dst, src, off, imm, rfl, hf⟩ := open_insn (hval 0 _ _ rfl rfl) h0
  obtain ⟨b0, b1, b2, b3, b4, b5, b6, b7, rfl, hb⟩ := open_eight (hval 1 _ _ rfl rfl) h1
  by_cases hd : 15 < dst
  · exact back_dst op dst src off imm b0 b1 b2 b3 b4 b5 b6 b7 W hb hd
  · by_cases hs : 15 < src
    · exact back_src op dst src off imm b0 b1 b2 b3 b4 b5 b6 b7 W hb (by omega) hs
    · exact back_ok op dst src off imm b0 b1 b2 b3 b4 b5 b6 b7 W hb hf (by omega) (by omega)

theorem back_holds : Rows.InsnBackSaid :=
  OpenClaim.holds_of_wide 5 Try.f5 rfl rfl rfl rfl rfl rfl rfl ⟨rfl, rfl, rfl, rfl, rfl⟩ rfl rfl rfl rfl rfl (by kernel_rfl) Try.func5 (by kernel_rfl)
    (of_decide_eq_true (by kernel_rfl)) (by unfold Func.isWrapper; first | (rw [if_pos (by decide +kernel)]; kernel_rfl) | (rw [if_neg (by decide +kernel)]; exact ⟨rfl, rfl⟩))
    (fun os started H enc _ => back_lifted os started H enc)

#print axioms back_holds
end Go.Proofs.Ytkggikcgaalgiaa
