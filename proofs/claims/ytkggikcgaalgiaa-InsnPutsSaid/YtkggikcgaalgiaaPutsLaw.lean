/-
  The statement InsnPuts: for every two instructions, the law returns true, and its arguments read as they did.
  Conditions: none beyond the row's own.
-/
import Derived.Test.YtkggikcgaalgiaaPuts
import Derived.Test.YtkggikcgaalgiaaOpen
namespace Go.Proofs.Ytkggikcgaalgiaa
open Go.ChangeShapes Go.WideShapes Go.ChangeAt Go.RowKit
set_option linter.unusedVariables false

set_option maxRecDepth 100000 in
theorem puts_lifted (os : Os) (started : os.Started) (H : Type) (enc : TypeId × Value → H) :
    ReturnsInHanded {} Try.checked os 3 .any (Rows.insnPutsSpec.pre6 enc Try.prog Try.f3 Rows.insnPutsRow.domain false) (Rows.insnPutsSpec.post enc Try.prog Try.f3 false true false false) := by
  refine law_lifted (C := Try.checked) own_none started (by kernel_rfl) Try.func3
    (ChangeSpec.witness6 (enc := enc) (C := Try.checked) false ⟨#[], #[.agg #[.int .u8 0, .int .u8 0, .int .u8 0, .int .i16 0, .int .i32 0], .agg #[.int .u8 0, .int .u8 0, .int .u8 0, .int .i16 0, .int .i32 0]], []⟩ 8 (by kernel_rfl) (by kernel_rfl) (by kernel_rfl) (by kernel_rfl))
    laid_out rfl rfl Try.underlying4 (by kernel_rfl) (fun ds hd => by match ds, hd with | [d1, d2], _ => rfl) ?_
  intro W base args ds p hval hA
  rw [Try.params3] at hval hA
  obtain ⟨v0, v1, d0, d1, p0, p1, rfl, rfl, rfl, h0, h1⟩ := trodAll_two hA
  obtain ⟨op, dst, src, off, imm, rfl, hf⟩ := open_insn (hval 0 _ _ rfl rfl) h0
  obtain ⟨op', dst', src', off', imm', rfl, hf'⟩ := open_insn (hval 1 _ _ rfl rfl) h1
  have h3 := hf.1.1
  have h4 := hf.2.1.1
  have h5 := hf.2.2.1.1
  by_cases hd : 15 < dst
  · exact puts_dst op dst src off imm op' dst' src' off' imm' W h3 hd
  · by_cases hs : 15 < src
    · exact puts_src op dst src off imm op' dst' src' off' imm' W h3 (by omega) hs
    · exact puts_ok op dst src off imm op' dst' src' off' imm' W h3 h4 (by omega) h5 (by omega)

theorem puts_holds : Rows.InsnPutsSaid :=
  OpenClaim.holds_of_wide 3 Try.f3 rfl rfl rfl rfl rfl rfl rfl ⟨rfl, rfl, rfl, rfl, rfl⟩ rfl rfl rfl rfl rfl (by kernel_rfl) Try.func3 (by kernel_rfl)
    (of_decide_eq_true (by kernel_rfl)) (by unfold Func.isWrapper; first | (rw [if_pos (by decide +kernel)]; kernel_rfl) | (rw [if_neg (by decide +kernel)]; exact ⟨rfl, rfl⟩))
    (fun os started H enc _ => puts_lifted os started H enc)

#print axioms puts_holds
end Go.Proofs.Ytkggikcgaalgiaa
