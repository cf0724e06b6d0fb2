/-
  The statement CodePlaces: for every instructions, and any place, the law returns true, and its arguments read as they did.
  Conditions: none beyond the row's own.
-/
import Derived.Test.YtplndcjmbgkcjaaCodePlaces
import Derived.Test.YtplndcjmbgkcjaaCodeOpen
namespace Go.Proofs.Ytplndcjmbgkcjaa
open Go.ChangeShapes Go.WideShapes Go.ChangeAt Go.RowKit
set_option linter.unusedVariables false

set_option maxRecDepth 100000 in
theorem cplaces_lifted (os : Os) (started : os.Started) (H : Type) (enc : TypeId × Value → H) :
    ReturnsInHanded {} Try.checked os 6 .any (Rows.codePlacesSpec.pre6 enc Try.prog Try.f6 Rows.codePlacesRow.domain false) (Rows.codePlacesSpec.post enc Try.prog Try.f6 false true false false) := by
  refine law_lifted (C := Try.checked) own_none started (by kernel_rfl) Try.func6
    (ChangeSpec.witness6 (enc := enc) (C := Try.checked) false ⟨#[], #[.slice none 0 0, .int .i64 0], []⟩ 8 (by kernel_rfl) (by kernel_rfl) (by kernel_rfl) (by kernel_rfl))
    laid_out rfl rfl Try.underlying4 (by kernel_rfl) (fun ds hd => by match ds, hd with | [d1, d2], _ => rfl) ?_
  intro W base args ds p hval hA
  rw [Try.params6] at hval hA
  obtain ⟨v0, v1, d0, d1, p0, p1, rfl, rfl, rfl, h0, h1⟩ := trodAll_two hA
  obtain ⟨A, c, l, rfl, hi, ho, hc, hm⟩ := open_insns (hval 0 _ _ rfl rfl) h0
  obtain ⟨n, rfl, _, _, wn⟩ := open_int Try.underlying3 (hval 1 _ _ rfl rfl) h1
  exact l7_CodePlaces l A c n W hi ho hc hm

theorem cplaces_holds : Rows.CodePlacesSaid :=
  OpenClaim.holds_of_wide 6 Try.f6 rfl rfl rfl rfl rfl rfl rfl ⟨rfl, rfl, rfl, rfl, rfl⟩ rfl rfl rfl rfl rfl (by kernel_rfl) Try.func6 (by kernel_rfl)
    (of_decide_eq_true (by kernel_rfl)) (by unfold Func.isWrapper; first | (rw [if_pos (by decide +kernel)]; kernel_rfl) | (rw [if_neg (by decide +kernel)]; exact ⟨rfl, rfl⟩))
    (fun os started H enc _ => cplaces_lifted os started H enc)

#print axioms cplaces_holds
end Go.Proofs.Ytplndcjmbgkcjaa
