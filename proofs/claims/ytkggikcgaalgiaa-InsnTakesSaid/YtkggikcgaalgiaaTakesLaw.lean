/-
  The statement InsnTakes: for all bytes, the law returns true, and its arguments read as they did.
  Conditions: none beyond the row's own.
-/
import Derived.Test.YtkggikcgaalgiaaTakes
import Derived.Test.YtkggikcgaalgiaaOpen
namespace Go.Proofs.Ytkggikcgaalgiaa
open Go.ChangeShapes Go.WideShapes Go.ChangeAt Go.RowKit
set_option linter.unusedVariables false

set_option maxRecDepth 100000 in
theorem takes_lifted (os : Os) (started : os.Started) (H : Type) (enc : TypeId × Value → H) :
    ReturnsInHanded {} Try.checked os 4 .any (Rows.insnTakesSpec.pre6 enc Try.prog Try.f4 Rows.insnTakesRow.domain false) (Rows.insnTakesSpec.post enc Try.prog Try.f4 false true false false) := by
  refine law_lifted (C := Try.checked) own_none started (by kernel_rfl) Try.func4
    (ChangeSpec.witness6 (enc := enc) (C := Try.checked) false ⟨#[], #[.slice none 0 0], []⟩ 8 (by kernel_rfl) (by kernel_rfl) (by kernel_rfl) (by kernel_rfl))
    laid_out rfl rfl Try.underlying4 (by kernel_rfl) (fun ds hd => by match ds, hd with | [d1], _ => rfl) ?_
  intro W base args ds p hval hA
  rw [Try.params4] at hval hA
  obtain ⟨v0, d0, rfl, rfl, h0⟩ := trodAll_one hA
  obtain ⟨A, n, c, rfl⟩ := okWide_slice Try.underlying25 (hval 0 _ _ rfl rfl)
  obtain ⟨fuel, hf⟩ := h0
  rcases open_ints Try.underlying25 Try.underlying5 (by kernel_rfl) hf with ⟨hcs, _⟩ | ⟨x, l, cc, zs, hcs, _, hl, hm, hz, _, hcell, hwz⟩
  · simp [Value.cells] at hcs
    obtain ⟨rfl, rfl, rfl⟩ := hcs
    exact takes_nil W
  · simp [Value.cells] at hcs
    obtain ⟨rfl, rfl, rfl⟩ := hcs
    by_cases h20 : 20 < n
    · exact takes_long x n c W h20 hl hm
    · by_cases h8 : n = 8
      · subst h8
        have hzl : zs.length = c := by simpa using hz
        have hb : ∀ i, i < 8 → W.cell? (x.add i) = some (.int .u8 (zs.getD i 0)) ∧ (0 ≤ zs.getD i 0 ∧ zs.getD i 0 ≤ 255) := fun i hi => by
          have hiz : i < zs.length := by omega
          refine ⟨hcell i hiz, ?_⟩
          rw [List.getD_eq_getElem?_getD, List.getElem?_eq_getElem hiz]
          exact bounds_u8 (hwz _ (List.getElem_mem hiz))
        obtain ⟨g, o, spot⟩ := x
        have hspot : spot = none := by simpa [Addr.add] using World.cell?_spot (hb 0 (by omega)).1
        subst hspot
        have hg : g < W.heap.size := by
          have h0 := (hb 0 (by omega)).1
          rcases Nat.lt_or_ge g W.heap.size with h | h
          · exact h
          · simp [World.cell?, Addr.add, Array.getElem?_eq_none h] at h0
        exact takes_eight g o c _ _ _ _ _ _ _ _ W hl hm (hb 0 (by omega)).1 (hb 1 (by omega)).1 (hb 2 (by omega)).1 (hb 3 (by omega)).1 (hb 4 (by omega)).1 (hb 5 (by omega)).1 (hb 6 (by omega)).1 (hb 7 (by omega)).1
          (hb 0 (by omega)).2 (hb 1 (by omega)).2 (hb 2 (by omega)).2 (hb 3 (by omega)).2 (hb 4 (by omega)).2 (hb 5 (by omega)).2 (hb 6 (by omega)).2 (hb 7 (by omega)).2 hg
      · exact takes_short x n c W (by omega) (by simp; omega) hl hm

theorem takes_holds : Rows.InsnTakesSaid :=
  OpenClaim.holds_of_wide 4 Try.f4 rfl rfl rfl rfl rfl rfl rfl ⟨rfl, rfl, rfl, rfl, rfl⟩ rfl rfl rfl rfl rfl (by kernel_rfl) Try.func4 (by kernel_rfl)
    (of_decide_eq_true (by kernel_rfl)) (by unfold Func.isWrapper; first | (rw [if_pos (by decide +kernel)]; kernel_rfl) | (rw [if_neg (by decide +kernel)]; exact ⟨rfl, rfl⟩))
    (fun os started H enc _ => takes_lifted os started H enc)

#print axioms takes_holds
end Go.Proofs.Ytkggikcgaalgiaa
