/-
  The statement CodeCut: for every instructions, how many bytes more, which byte, how it is changed, the law returns true, and its arguments read as they did.
  Conditions: none beyond the row's own.
-/
import Derived.Test.YtplndcjmbgkcjaaCodeCut
import Derived.Test.YtplndcjmbgkcjaaCodeOpen
namespace Go.Proofs.Ytplndcjmbgkcjaa
open Go.ChangeShapes Go.WideShapes Go.ChangeAt Go.RowKit
set_option linter.unusedVariables false

set_option maxRecDepth 100000 in
theorem ccut_lifted (os : Os) (started : os.Started) (H : Type) (enc : TypeId × Value → H) :
    ReturnsInHanded {} Try.checked os 9 .any (Rows.codeCutSpec.pre6 enc Try.prog Try.f9 Rows.codeCutRow.domain false) (Rows.codeCutSpec.post enc Try.prog Try.f9 false true false false) := by
  refine law_lifted (C := Try.checked) own_none started (by kernel_rfl) Try.func9
    (ChangeSpec.witness6 (enc := enc) (C := Try.checked) false ⟨#[], #[.slice none 0 0, .int .u8 0, .int .u8 0, .int .u16 0], []⟩ 8 (by kernel_rfl) (by kernel_rfl) (by kernel_rfl) (by kernel_rfl))
    laid_out rfl rfl Try.underlying4 (by kernel_rfl) (fun ds hd => by match ds, hd with | [d1, d2, d3, d4], _ => rfl) ?_
  intro W base args ds p hval hA
  rw [Try.params9] at hval hA
  obtain ⟨v0, v1, v2, v3, d0, d1, d2, d3, p0, p1, p2, p3, rfl, rfl, rfl, h0, h1, h2, h3⟩ := trodAll_four hA
  obtain ⟨A, c, l, rfl, hi, ho, hc, hm⟩ := open_insns (hval 0 _ _ rfl rfl) h0
  obtain ⟨mo, rfl, _, _, wmo⟩ := open_int Try.underlying5 (hval 1 _ _ rfl rfl) h1
  obtain ⟨by_, rfl, _, _, wby_⟩ := open_int Try.underlying5 (hval 2 _ _ rfl rfl) h2
  obtain ⟨at_, rfl, _, _, wat_⟩ := open_int Try.underlying51 (hval 3 _ _ rfl rfl) h3
  exact l7_CodeCut l A c W hi ho hc hm mo by_ at_ (bounds_u8 wmo) (bounds_u8 wby_) (bounds_u16 wat_)

theorem ccut_holds : Rows.CodeCutSaid :=
  OpenClaim.holds_of_wide 9 Try.f9 rfl rfl rfl rfl rfl rfl rfl ⟨rfl, rfl, rfl, rfl, rfl⟩ rfl rfl rfl rfl rfl (by kernel_rfl) Try.func9 (by kernel_rfl)
    (of_decide_eq_true (by kernel_rfl)) (by unfold Func.isWrapper; first | (rw [if_pos (by decide +kernel)]; kernel_rfl) | (rw [if_neg (by decide +kernel)]; exact ⟨rfl, rfl⟩))
    (fun os started H enc _ => ccut_lifted os started H enc)

#print axioms ccut_holds
end Go.Proofs.Ytplndcjmbgkcjaa
